/- Texts of this seat that several laws rest on, laid into one. Conditions: as each theorem states. -/
import Derived.Test.YtcnpocppgghejaaGreatDoorProg
import Derived.WalkKit
import Derived.WalkSpells
import Derived.WalkLawsBesides
import Derived.Lib.Hide
import Derived.ChangeOld
import Derived.Below
import Derived.OpenShut
import Derived.Deep.QuietTactic
import Derived.BigQuiet
import Derived.Deep.Draws
import Derived.Deep.RegionHeld3
import Derived.Deep.AppendSrc
import Derived.Deep.MidRow
import Derived.Deep.Upon
import Derived.OwnWalk
import Derived.RegionTactic
import Derived.Laws.IdiomStrings
import Derived.Lib.SlBytesConst
import Derived.Lib.Case
import Derived.Lib.Strings
import Derived.Scope
import Derived.WalkMore
import Derived.Lib.IndexBytes
import Derived.Shelf.Strings.OnBuilder
import Derived.Shelf.Strings.Prefix
import Derived.OrdersHeld
import Derived.Deep.Quiet
import Derived.Laws.BytesString
import Derived.Laws.CopyOwn
import Derived.Deep.CutRange
namespace Go.Proofs.YtcnpocppgghejaaGreatDoor
open Go.RowKit

theorem bal {w w1 : World} (h : Below w.heap.size w w1) (o : Obj) : Below w.heap.size w (w1.alloc o) := h.alloc h.size o
theorem btr {w w1 w2 : World} (h : Below w.heap.size w w1) (k : Below w1.heap.size w1 w2) : Below w.heap.size w w2 := h.trans (k.mono h.size)
theorem bset {w w1 : World} (h : Below w.heap.size w w1) {p : Addr} (hp : w.heap.size ≤ p.block) (v : Value) : Below w.heap.size w (w1.setCell p v) := h.setCell hp v
theorem bcell {W w1 : World} (hb : Below W.heap.size W w1) : (∀ b o, b < W.heap.size → w1.cell? ⟨b, o, none⟩ = W.cell? ⟨b, o, none⟩) ∧ (∀ b o, b < W.heap.size → w1.frozen? ⟨b, o, none⟩ = W.frozen? ⟨b, o, none⟩) :=
  ⟨fun b o h => hb.cell (p := ⟨b, o, none⟩) h, fun b o h => hb.frozen (p := ⟨b, o, none⟩) h⟩
theorem bdrewN {B : Nat} {w w1 : World} (h : Below B w w1) (n : Nat) : Below B w (w1.drewN n) := ⟨h.os, h.tape, h.output, h.size, h.block⟩

theorem cell_lt {w : World} {p : Addr} {v : Value} (h : w.cell? p = some v) : p.block < w.heap.size := by
  rcases Nat.lt_or_ge p.block w.heap.size with h1 | h1
  · exact h1
  · unfold World.cell? at h; rw [Array.getElem?_eq_none h1] at h; cases h
/-- A cell that is there stays so. -/
theorem cell_keep {w w' : World} (hb : Below w.heap.size w w') {p : Addr} {v : Value} (h : w.cell? p = some v) : w'.cell? p = some v := (hb.cell (cell_lt h)).trans h

/-- Block g alone may have turned; no block has come. -/
structure Only (g : Nat) (w w' : World) : Prop where
  os : w'.os = w.os
  tape : w'.tape = w.tape
  output : w'.output = w.output
  size : w'.heap.size = w.heap.size
  block : ∀ k, k ≠ g → w'.heap[k]? = w.heap[k]?
theorem Only.refl (g : Nat) (w : World) : Only g w w := ⟨rfl, rfl, rfl, rfl, fun _ _ => rfl⟩
theorem Only.trans {g : Nat} {a b c : World} (h : Only g a b) (k : Only g b c) : Only g a c :=
  ⟨k.os.trans h.os, k.tape.trans h.tape, k.output.trans h.output, k.size.trans h.size, fun i hi => (k.block i hi).trans (h.block i hi)⟩
theorem Only.drewN {g : Nat} {a b : World} (h : Only g a b) (n : Nat) : Only g a (b.drewN n) := ⟨h.os, h.tape, h.output, h.size, h.block⟩
theorem Only.setCell {g : Nat} {a b : World} (h : Only g a b) (o : Nat) (u : Value) : Only g a (b.setCell ⟨g, o, none⟩ u) :=
  h.trans ⟨rfl, rfl, rfl, by simp [World.setCell], fun k hk => Below.heap_setCell _ _ _ _ hk⟩
theorem Only.below {g B : Nat} {a b : World} (h : Only g a b) (hB : B ≤ g) : Below B a b :=
  ⟨h.os, h.tape, h.output, by rw [h.size]; exact Nat.le_refl _, fun k hk => h.block k (by omega)⟩

/-- A slice of whole numbers that is read: 'zs' are its elements; it lies below block B. -/
structure Row (k : IntKind) (w : World) (B : Nat) (a : Option Addr) (len cap : Nat) (zs : List Int) : Prop where
  length : zs.length = len
  wf : ∀ z ∈ zs, (Lit.int k z).wf = true
  fits : len ≤ cap
  most : cap ≤ maxLen
  cells : 0 < len → ∃ b off, a = some ⟨b, off, none⟩ ∧ b < B ∧ ∀ j, j < len → w.cell? ⟨b, off + j, none⟩ = some (.int k (zs.getD j 0))
theorem Row.keep {k : IntKind} {w w' : World} {B : Nat} {a : Option Addr} {len cap : Nat} {zs : List Int} (h : Row k w B a len cap zs) (hk : ∀ i, i < B → w'.heap[i]? = w.heap[i]?) : Row k w' B a len cap zs :=
  ⟨h.length, h.wf, h.fits, h.most, fun hp => by
    obtain ⟨b, off, e, hb, hc⟩ := h.cells hp
    exact ⟨b, off, e, hb, fun j hj => (World.cell?_of_block (w := w) (hk b hb)).trans (hc j hj)⟩⟩
theorem Row.below {k : IntKind} {w w' : World} {B : Nat} {a : Option Addr} {len cap : Nat} {zs : List Int} (h : Row k w B a len cap zs) (hb : Below B w w') : Row k w' B a len cap zs := h.keep hb.block
theorem Row.more {k : IntKind} {w : World} {B B' : Nat} {a : Option Addr} {len cap : Nat} {zs : List Int} (h : Row k w B a len cap zs) (hB : B ≤ B') : Row k w B' a len cap zs :=
  ⟨h.length, h.wf, h.fits, h.most, fun hp => by
    obtain ⟨b, off, e, hb, hc⟩ := h.cells hp
    exact ⟨b, off, e, by omega, hc⟩⟩
theorem Row.byte {w : World} {B : Nat} {a : Option Addr} {len cap : Nat} {zs : List Int} (h : Row .u8 w B a len cap zs) (j : Nat) : 0 ≤ zs.getD j 0 ∧ zs.getD j 0 ≤ 255 := by
  rcases Nat.lt_or_ge j zs.length with hj | hj
  · have hm := h.wf (zs[j]) (List.getElem_mem hj)
    have e : zs.getD j 0 = zs[j] := by simp [List.getD, hj]
    rw [e]
    simp [Lit.wf, IntKind.min, IntKind.max, IntKind.signed, IntKind.bits] at hm
    omega
  · have e : zs.getD j 0 = 0 := by simp [List.getD, hj]
    rw [e]; omega

theorem Row.of_open {k : IntKind} {w : World} {x : Addr} {l c : Nat} {zs : List Int} (hl : l ≤ c) (hm : c ≤ maxLen) (hz : zs.length = c)
    (hcell : ∀ i, i < zs.length → w.cell? (x.add i) = some (.int k (zs.getD i 0))) (hw : ∀ n ∈ zs, (Lit.int k n).wf = true) : Row k w w.heap.size (some x) l c (zs.take l) :=
  ⟨by simp; omega, fun z h => hw z (List.mem_of_mem_take h), hl, hm, fun hp => by
    obtain ⟨b, off, rfl, hc⟩ := ints_at hcell (by omega)
    refine ⟨b, off, rfl, cell_lt (hc 0 (by omega)), fun j hj => ?_⟩
    rw [hc j (by omega)]
    simp [List.getD, hj]⟩
theorem Row.nil (k : IntKind) (w : World) (B : Nat) : Row k w B none 0 0 [] := ⟨rfl, (fun _ h => by cases h), Nat.le_refl _, Nat.zero_le _, fun h => absurd h (by omega)⟩
end Go.Proofs.YtcnpocppgghejaaGreatDoor
namespace Go.Proofs.YtcnpocppgghejaaGreatDoor
open Go.RowKit

/-- The slice v holds n elements, the cells xs; it is nil, or lies at the head of a block from B on; all that it has room for is there and may be written. -/
def Own (w : World) (B size : Nat) (v : Value) (n : Nat) (xs : List Value) : Prop :=
  xs.length = n * size ∧ ((v = .slice none 0 0 ∧ n = 0) ∨
    ∃ g cap, v = .slice (some ⟨g, 0, none⟩) n cap ∧ B ≤ g ∧ g < w.heap.size ∧ n ≤ cap ∧ cap ≤ maxLen ∧
      (∀ j u, xs[j]? = some u → w.cell? ⟨g, j, none⟩ = some u) ∧ (∀ j, j < cap * size → (w.cell? ⟨g, j, none⟩).isSome = true ∧ w.frozen? ⟨g, j, none⟩ = false))

section
variable {w w' : World} {B size : Nat} {v : Value} {n : Nat} {xs : List Value}

theorem Own.nil (w : World) (B size : Nat) : Own w B size (.slice none 0 0) 0 [] := ⟨by simp, .inl ⟨rfl, rfl⟩⟩
theorem Own.lt (h : Own w B size v n xs) : ∀ k, v.ownBlock = some k → B ≤ k ∧ k < w.heap.size := by
  intro k hk
  rcases h.2 with ⟨rfl, _⟩ | ⟨g, cap, rfl, hb, hg, _⟩
  · simp [Value.ownBlock] at hk
  · simp [Value.ownBlock] at hk
    subst hk
    exact ⟨hb, hg⟩
theorem Own.keep (h : Own w B size v n xs) (hs : w.heap.size ≤ w'.heap.size) (hk : ∀ k, v.ownBlock = some k → w'.heap[k]? = w.heap[k]?) : Own w' B size v n xs := by
  refine ⟨h.1, ?_⟩
  rcases h.2 with hn | ⟨g, cap, rfl, hb, hg, h1, h2, hc, hf⟩
  · exact .inl hn
  · have e : w'.heap[g]? = w.heap[g]? := hk g rfl
    exact .inr ⟨g, cap, rfl, hb, by omega, h1, h2, fun j u hu => (World.cell?_of_block (w := w) e).trans (hc j u hu), fun j hj => by
      rw [World.cell?_of_block (w := w) (a := ⟨g, j, none⟩) e, World.frozen?_of_block (w := w) (a := ⟨g, j, none⟩) e]
      exact hf j hj⟩
theorem Own.below (h : Own w B size v n xs) (hb : Below w.heap.size w w') : Own w' B size v n xs :=
  h.keep hb.size fun k hk => hb.block k (h.lt k hk).2
theorem Own.alloc (h : Own w B size v n xs) (o : Obj) : Own (w.alloc o) B size v n xs :=
  h.keep (by simp) fun k hk => Below.heap_alloc w o k (h.lt k hk).2
theorem Own.drew (h : Own w B size v n xs) : Own w.drew B size v n xs := h
theorem Own.drewN (h : Own w B size v n xs) (k : Nat) : Own (w.drewN k) B size v n xs := h
theorem Own.setCell (h : Own w B size v n xs) {p : Addr} (hp : ∀ k, v.ownBlock = some k → k ≠ p.block) (u : Value) : Own (w.setCell p u) B size v n xs :=
  h.keep (by simp [World.setCell]) fun k hk => Below.heap_setCell w p u k (hp k hk)
theorem Own.kept {row : Option Nat} (h : Own w B size v n xs) (hg : w.grownBy w' row) (hne : v.ownBlock = none ∨ v.ownBlock ≠ row) : Own w' B size v n xs :=
  h.keep hg.size fun k hk => hg.block k (h.lt k hk).2 (by rcases hne with e | e <;> simp_all)
theorem Own.less {B' : Nat} (h : Own w B size v n xs) (hB : B' ≤ B) : Own w B' size v n xs := by
  refine ⟨h.1, ?_⟩
  rcases h.2 with hn | ⟨g, cap, rfl, hb, rest⟩
  · exact .inl hn
  · exact .inr ⟨g, cap, rfl, by omega, rest⟩
theorem Own.fits (h : Own w B size v n xs) : n ≤ maxLen := by
  rcases h.2 with ⟨_, rfl⟩ | ⟨g, cap, _, _, _, h1, h2, _⟩
  · exact Nat.zero_le _
  · omega
/-- Its value, written out. -/
theorem Own.form (h : Own w B size v n xs) : ∃ a cap, v = .slice a n cap ∧ n ≤ cap ∧ cap ≤ maxLen ∧ (a = none → n = 0 ∧ cap = 0) := by
  rcases h.2 with ⟨rfl, rfl⟩ | ⟨g, cap, rfl, _, _, h1, h2, _⟩
  · exact ⟨none, 0, rfl, Nat.le_refl _, Nat.zero_le _, fun _ => ⟨rfl, rfl⟩⟩
  · exact ⟨_, cap, rfl, h1, h2, fun h => by cases h⟩

/-- A slice of whole numbers that is owned can be read. -/
theorem Own.row {k : IntKind} {zs : List Int} {a : Option Addr} {len cap : Nat} (h : Own w B 1 (.slice a len cap) n (zs.map (Value.int k))) (hw : ∀ z ∈ zs, (Lit.int k z).wf = true) : Row k w w.heap.size a len cap zs := by
  have hl := h.1
  simp at hl
  rcases h.2 with ⟨e, rfl⟩ | ⟨g, c, e, hb, hg, h1, h2, hc, _⟩
  · injection e with e1 e2 e3
    subst e1; subst e2; subst e3
    obtain rfl : zs = [] := List.eq_nil_of_length_eq_zero hl
    exact Row.nil _ _ _
  · injection e with e1 e2 e3
    subst e1; subst e2; subst e3
    exact ⟨hl, hw, h1, h2, fun hp => ⟨g, 0, rfl, hg, fun j hj => by
      rw [Nat.zero_add]
      exact hc j _ (by simp [List.getD, show j < zs.length by omega])⟩⟩

/-- A block that was just made, with room for cap. -/
theorem Own.made (w : World) (cur : Array Value) (e : TypeId) (cap : Nat) (hb : B ≤ w.heap.size) (hm : cap ≤ maxLen) (hs : cur.size = cap * size) :
    Own (w.alloc (.cells cur e)) B size (.slice (some ⟨w.heap.size, 0, none⟩) 0 cap) 0 [] := by
  have e1 : (w.alloc (.cells cur e)).heap[w.heap.size]? = some (.cells cur e) := (MapKept.heap_alloc w _).1
  refine ⟨by simp, .inr ⟨w.heap.size, cap, rfl, hb, by simp, Nat.zero_le _, hm, by simp, fun j hj => ?_⟩⟩
  unfold World.cell? World.frozen?
  rw [e1]
  simp [show j < cur.size by omega]

/-- The bytes of a text, newly laid: the block is marked behind its end alone. -/
theorem Own.bytes (w : World) (cur : Array Value) (e : TypeId) (cap : Nat) (xs : List Value) (hb : B ≤ w.heap.size) (hn : n ≤ cap) (hm : cap ≤ maxLen) (hs : cur.size = cap) (hl : xs.length = n) (hx : cur.toList.take n = xs) (m1 : Nat) :
    Own (w.alloc (.cells cur e (cur.size, m1))) B 1 (.slice (some ⟨w.heap.size, 0, none⟩) n cap) n xs := by
  have e1 : (w.alloc (.cells cur e (cur.size, m1))).heap[w.heap.size]? = some (.cells cur e (cur.size, m1)) := (MapKept.heap_alloc w _).1
  refine ⟨by simp [hl], .inr ⟨w.heap.size, cap, rfl, hb, by simp, hn, hm, fun j u hu => ?_, fun j hj => ?_⟩⟩
  · unfold World.cell?
    rw [e1]
    rw [← hx, List.getElem?_take] at hu
    split at hu
    · simpa using hu
    · cases hu
  · unfold World.cell? World.frozen?
    rw [e1]
    simp [show j < cur.size by omega]
    intro h
    omega
end

section
variable {P : Program} (w : World)

/-- WHAT AN append MAKES OF IT, whatever is appended. -/
theorem run_append_src (B : Nat) (t tx ty e : TypeId) (i : TypeInfo) (z : Value) (size bytes : Nat) (ht : P.underlying t = some (.slice e)) (hi : P.info? e = some i) (hz : i.zero = some z)
    (hsize : i.size = size) (hby : i.bytes = bytes) (hzs : z.cells.size = size)
    (v : Value) (n : Nat) (xs : List Value) (hown : Own w B size v n xs)
    (x : Value) (m : Nat) (news : List Value) (hs : Go.Src P size tx x m news w)
    (h63 : n + m ≤ maxLen) (hbytes : (n + m) * bytes ≤ 140737488355328) (hB : B ≤ w.heap.size) :
    ∃ v' w', (Builtin.append_ #[t, tx] ty #[v, x]).run P w = .ok v' w' ∧ Own w' B size v' (n + m) (xs ++ news) ∧ w.grownBy w' v.ownBlock ∧ (v'.ownBlock = v.ownBlock ∨ v'.ownBlock = some w.heap.size) := by
  subst hsize
  subst hby
  have hlen : (xs ++ news).length = (n + m) * i.size := by rw [List.length_append, hown.1, hs.newsLen, Nat.add_mul]
  have grown : ∀ (old : Nat) (row : Option Nat),
      Own (w.drew.alloc (.cells ((xs ++ news).toArray ++ Builtin.zeroCells z.cells (grownCap w (n + m) old e - (n + m))) e)) B i.size
        (.slice (some ⟨w.heap.size, 0, none⟩) (n + m) (grownCap w (n + m) old e)) (n + m) (xs ++ news) ∧
      w.grownBy (w.drew.alloc (.cells ((xs ++ news).toArray ++ Builtin.zeroCells z.cells (grownCap w (n + m) old e - (n + m))) e)) row := by
    intro old row
    have hge := grownCap_ge w (n + m) old e
    have hcm : grownCap w (n + m) old e ≤ maxLen := grownCap_le_maxLen w (n + m) old e h63
    have e1 := (MapKept.heap_alloc w.drew (.cells ((xs ++ news).toArray ++ Builtin.zeroCells z.cells (grownCap w (n + m) old e - (n + m))) e)).1
    have e2 : w.drew.heap.size = w.heap.size := rfl
    rw [e2] at e1
    refine ⟨⟨hlen, .inr ⟨w.heap.size, _, rfl, hB, by simp, hge, hcm, fun j u hu => ?_, fun j hj => ?_⟩⟩, ⟨rfl, rfl, rfl, by simp, fun k hk _ => Below.heap_alloc w.drew _ k hk⟩⟩
    · unfold World.cell?
      rw [e1]
      have hj := (List.getElem?_eq_some_iff.1 hu).1
      simp only [Array.getElem?_append, List.size_toArray, hj, if_true]
      simpa using hu
    · have hsz : j < ((xs ++ news).toArray ++ Builtin.zeroCells z.cells (grownCap w (n + m) old e - (n + m))).size := by
        simp only [Array.size_append, List.size_toArray, size_zeroCells, hzs, hlen, ← Nat.add_mul]
        rw [Nat.add_sub_cancel' hge]
        exact hj
      unfold World.cell? World.frozen?
      rw [e1]
      simp only [Array.getElem?_eq_getElem hsz]
      simp
  rcases hown.2 with ⟨rfl, rfl⟩ | ⟨g, cap, rfl, hbg, hgl, hnc, hcm, hcell, hroomc⟩
  · have hx : xs = [] := List.eq_nil_of_length_eq_zero (by simpa using hown.1)
    subst hx
    by_cases hm : m = 0
    · subst hm
      have hn : news = [] := List.eq_nil_of_length_eq_zero (by simpa using hs.newsLen)
      subst hn
      refine ⟨.slice none 0 0, w, ?_, Own.nil w B i.size, ⟨rfl, rfl, rfl, Nat.le_refl _, fun _ _ _ => rfl⟩, .inl rfl⟩
      rcases hs.kind with ⟨e', hk⟩ | hk <;> simp [Builtin.append_, run_underlying ht, run_underlying hk, sizeOf, typeInfo, hi, hs.len, hs.cells]
    · have hr := run_append_grow_src (P := P) w t tx ty e i z ht hi hz none 0 0 [] (run_firstCells_none w.drew i.size 0 0 0) x m news hs (by omega) (by simp only [maxLen] at h63; omega) (growslice_fits (by omega) hbytes)
      have hgr := grown 0 (Value.ownBlock (.slice none 0 0))
      exact ⟨_, _, hr, hgr.1, hgr.2, .inr rfl⟩
  · by_cases hroom : n + m ≤ cap
    · have hfit : ∀ j, j < news.length → n * i.size + j < cap * i.size := by
        intro j hj
        have h1 : (n + m) * i.size ≤ cap * i.size := Nat.mul_le_mul_right _ hroom
        rw [Nat.add_mul, ← hs.newsLen] at h1
        omega
      have hr := run_append_room_src (P := P) w t tx ty e i ht hi g 0 n cap x m news hs hroom
        (fun j hj => by rw [Nat.zero_add]; exact (hroomc _ (hfit j hj)).1) (fun j hj => by rw [Nat.zero_add]; exact (hroomc _ (hfit j hj)).2)
      rw [Nat.zero_add] at hr
      have hk := World.keptBut_setCells g (may := fun _ => True) news (n * i.size) w (fun _ _ => trivial)
      have hsz : (w.setCells g (n * i.size) news).heap.size = w.heap.size := by
        have : ∀ (vs : List Value) (o : Nat) (u : World), (u.setCells g o vs).heap.size = u.heap.size := by
          intro vs
          induction vs with
          | nil => intro o u; rfl
          | cons c cs ih => intro o u; show ((u.setCell _ _).setCells g _ cs).heap.size = _; rw [ih]; simp [World.setCell]
        exact this _ _ _
      have htp : ∀ (vs : List Value) (o : Nat) (u : World), (u.setCells g o vs).tape = u.tape := by
        intro vs
        induction vs with
        | nil => intro o u; rfl
        | cons c cs ih => intro o u; show ((u.setCell _ _).setCells g _ cs).tape = _; rw [ih]; rfl
      refine ⟨_, _, hr, ⟨hlen, .inr ⟨g, cap, rfl, hbg, by rw [hsz]; exact hgl, hroom, hcm, fun j u hu => ?_, fun j hj => ?_⟩⟩,
        ⟨World.os_setCells w g _ _, htp _ _ _, World.output_setCells w g _ _, by rw [hsz]; exact Nat.le_refl _, fun k hk hne => World.heap_setCells_other w g _ _ hk (fun e => hne (by simp [Value.ownBlock, e]))⟩, .inl rfl⟩
      · rcases Nat.lt_or_ge j xs.length with hj | hj
        · rw [World.cell?_setCells_out g news (n * i.size) w ⟨g, j, none⟩ (fun _ _ => .inl (by rw [← hown.1]; exact hj))]
          rw [List.getElem?_append_left hj] at hu
          exact hcell j u hu
        · rw [List.getElem?_append_right hj] at hu
          have hj2 := (List.getElem?_eq_some_iff.1 hu).1
          have key := World.cell?_setCells_in g news (n * i.size) w (fun j hj => (hroomc _ (hfit j hj)).1) (j - xs.length) hj2
          have eo : n * i.size + (j - xs.length) = j := by rw [← hown.1]; omega
          rw [eo] at key
          rw [key]
          rw [List.getElem?_eq_getElem hj2] at hu
          exact hu
      · refine ⟨World.isSome_setCells g news _ w _ (hroomc j hj).1, ?_⟩
        rw [World.frozen?_setCells]
        exact (hroomc j hj).2
    · have hold : (Builtin.firstCells i.size n (.slice (some ⟨g, 0, none⟩) n cap)).run P w.drew = .ok xs.toArray w.drew :=
        run_firstCells_some w.drew i.size n ⟨g, 0, none⟩ n cap xs hown.1 (fun j u hu => by
          have := hcell j u hu
          rw [Addr.add_lit, Nat.zero_add]
          exact this)
      have hr := run_append_grow_src (P := P) w t tx ty e i z ht hi hz (some ⟨g, 0, none⟩) n cap xs hold x m news hs (by omega) (by simp only [maxLen] at h63; omega) (growslice_fits (by omega) hbytes)
      have hgr := grown cap (Value.ownBlock (.slice (some ⟨g, 0, none⟩) n cap))
      exact ⟨_, _, hr, hgr.1, hgr.2, .inr rfl⟩

theorem wp_append_src {o : Oper} {a : Act} {K : Act → World → Prop} {Q : Exit → Act → World → Prop} (s y : Operand) (t tx : TypeId)
    (ho : o.op = .call { callee := .builtin .append, args := #[s, y], argTypes := #[t, tx] })
    (B : Nat) (e : TypeId) (i : TypeInfo) (z : Value) (size bytes : Nat) (ht : P.underlying t = some (.slice e)) (hi : P.info? e = some i) (hz : i.zero = some z)
    (hsize : i.size = size) (hby : i.bytes = bytes) (hzs : z.cells.size = size)
    (v : Value) (n : Nat) (xs : List Value) (hsv : a.eval s = v) (hown : Own w B size v n xs)
    (x : Value) (m : Nat) (news : List Value) (hx : a.eval y = x) (hs : Go.Src P size tx x m news w)
    (h63 : n + m ≤ maxLen) (hbytes : (n + m) * bytes ≤ 140737488355328) (hB : B ≤ w.heap.size)
    (h : ∀ v' w', Own w' B size v' (n + m) (xs ++ news) → w.grownBy w' v.ownBlock → (v'.ownBlock = v.ownBlock ∨ v'.ownBlock = some w.heap.size) → K (a.put o.dst v') w') : o.wp P a w K Q := by
  obtain ⟨v', w', hr, h2, h3, h4⟩ := run_append_src (P := P) w B t tx o.type e i z size bytes ht hi hz hsize hby hzs v n xs hown x m news hs h63 hbytes hB
  unfold Oper.wp execOp
  simp only [ho, resolve, invoke, builtin, Sem.run_bind, Sem.run_pure, Result.andThen_ok, List.map_toArray, List.map_cons, List.map_nil, hsv, hx, hr]
  exact h v' w' h2 h3 h4

theorem wpList_append_src {ops : Array Oper} {rest : List Oper} {o : Oper} {a : Act} {Q : Exit → Act → World → Prop} (hgd : o.guard = none) (s y : Operand) (t tx : TypeId)
    (ho : o.op = .call { callee := .builtin .append, args := #[s, y], argTypes := #[t, tx] })
    (B : Nat) (e : TypeId) (i : TypeInfo) (z : Value) (size bytes : Nat) (ht : P.underlying t = some (.slice e)) (hi : P.info? e = some i) (hz : i.zero = some z)
    (hsize : i.size = size) (hby : i.bytes = bytes) (hzs : z.cells.size = size)
    (v : Value) (n : Nat) (xs : List Value) (hsv : a.eval s = v) (hown : Own w B size v n xs)
    (x : Value) (m : Nat) (news : List Value) (hx : a.eval y = x) (hs : Go.Src P size tx x m news w)
    (h63 : n + m ≤ maxLen) (hbytes : (n + m) * bytes ≤ 140737488355328) (hB : B ≤ w.heap.size)
    (h : ∀ v' w', Own w' B size v' (n + m) (xs ++ news) → w.grownBy w' v.ownBlock → (v'.ownBlock = v.ownBlock ∨ v'.ownBlock = some w.heap.size) → wpList P ops Q rest (a.put o.dst v') w') : wpList P ops Q (o :: rest) a w :=
  wpList_plain hgd fun _ hK => wp_append_src w s y t tx ho B e i z size bytes ht hi hz hsize hby hzs v n xs hsv hown x m news hx hs h63 hbytes hB fun v' w' h2 h3 h4 => hK _ _ (h v' w' h2 h3 h4)

theorem step_append_src {ops : Array Oper} {o : Oper} {a : Act} {K : Act → World → Prop} {Q : Exit → Act → World → Prop} {E : Prop} (hgd : o.guard = none) (s y : Operand) (t tx : TypeId)
    (ho : o.op = .call { callee := .builtin .append, args := #[s, y], argTypes := #[t, tx] })
    (B : Nat) (e : TypeId) (i : TypeInfo) (z : Value) (size bytes : Nat) (ht : P.underlying t = some (.slice e)) (hi : P.info? e = some i) (hz : i.zero = some z)
    (hsize : i.size = size) (hby : i.bytes = bytes) (hzs : z.cells.size = size)
    (v : Value) (n : Nat) (xs : List Value) (hsv : a.eval s = v) (hown : Own w B size v n xs)
    (x : Value) (m : Nat) (news : List Value) (hx : a.eval y = x) (hs : Go.Src P size tx x m news w)
    (h63 : n + m ≤ maxLen) (hbytes : (n + m) * bytes ≤ 140737488355328) (hB : B ≤ w.heap.size)
    (h : ∀ v' w', Own w' B size v' (n + m) (xs ++ news) → w.grownBy w' v.ownBlock → (v'.ownBlock = v.ownBlock ∨ v'.ownBlock = some w.heap.size) → K (a.put o.dst v') w') :
    if Region.wanted o (yielded ops a.tmps) = true then Oper.wp P o a w K Q else E := by
  have hw : Region.wanted o (yielded ops a.tmps) = true := by simp [Region.wanted, hgd]
  rw [if_pos hw]
  exact wp_append_src w s y t tx ho B e i z size bytes ht hi hz hsize hby hzs v n xs hsv hown x m news hx hs h63 hbytes hB h
end

end Go.Proofs.YtcnpocppgghejaaGreatDoor
namespace Go.Proofs.YtcnpocppgghejaaGreatDoor.M

theorem emod_mul (a b m : Int) : a % m * (b % m) % m = a * b % m := (Int.mul_emod a b m).symm
theorem emod_mul_l (a b m : Int) : a % m * b % m = a * b % m := by rw [Int.mul_emod, Int.emod_emod, ← Int.mul_emod]
theorem emod_mul_r (a b m : Int) : a * (b % m) % m = a * b % m := by rw [Int.mul_emod, Int.emod_emod, ← Int.mul_emod]

/-- What m leaves of a to the pow e. -/
def pw (a : Int) (e : Nat) (m : Int) : Int := a ^ e % m

theorem pw_bd (a : Int) (e : Nat) {m : Int} (h : 1 ≤ m) : 0 ≤ pw a e m ∧ pw a e m < m :=
  ⟨Int.emod_nonneg _ (by omega), Int.emod_lt_of_pos _ (by omega)⟩
theorem pw_zero (a m : Int) : pw a 0 m = 1 % m := by unfold pw; rw [Int.pow_zero]
theorem pw_one {a m : Int} (h0 : 0 ≤ a) (h : a < m) : pw a 1 m = a := by
  unfold pw; rw [Int.pow_succ, Int.pow_zero, Int.one_mul]; exact Int.emod_eq_of_lt h0 h
theorem pw_add (a : Int) (e f : Nat) (m : Int) : pw a e m * pw a f m % m = pw a (e + f) m := by
  unfold pw; rw [emod_mul, Int.pow_add]
theorem pw_base (a : Int) (e : Nat) (m : Int) : pw (a % m) e m = pw a e m := by
  unfold pw
  induction e with
  | zero => rw [Int.pow_zero, Int.pow_zero]
  | succ n ih => rw [Int.pow_succ, Int.pow_succ, Int.mul_emod, ih, Int.emod_emod, ← Int.mul_emod]
theorem pw_pw (a : Int) (e f : Nat) (m : Int) : pw (pw a e m) f m = pw a (e * f) m := by
  show pw (a ^ e % m) f m = _
  rw [pw_base]; unfold pw; rw [Int.pow_mul]
theorem pw_one_base (e : Nat) (m : Int) : pw 1 e m = 1 % m := by unfold pw; rw [Int.one_pow]

/-- a round of the loop over bits, the bit is 1. -/
theorem bit_one (a : Int) (e k : Nat) (m : Int) (h : e / 2 ^ k % 2 = 1) : pw a (e % 2 ^ k) m * pw a (2 ^ k) m % m = pw a (e % 2 ^ (k + 1)) m := by
  rw [pw_add]; congr 1
  rw [Nat.pow_succ, Nat.mod_mul, h, Nat.mul_one]
theorem bit_zero (a : Int) (e k : Nat) (m : Int) (h : e / 2 ^ k % 2 = 0) : pw a (e % 2 ^ k) m = pw a (e % 2 ^ (k + 1)) m := by
  congr 1
  rw [Nat.pow_succ, Nat.mod_mul, h, Nat.mul_zero, Nat.add_zero]
theorem square (a : Int) (k : Nat) (m : Int) : pw a (2 ^ k) m * pw a (2 ^ k) m % m = pw a (2 ^ (k + 1)) m := by
  rw [pw_add]; congr 1; rw [Nat.pow_succ]; omega

/-- what the loop of the model keeps: n times a to the e is the answer. -/
def Keep (A : Int) (E : Nat) (m n a : Int) (e : Nat) : Prop := n * a ^ e % m = A ^ E % m
theorem keep_start (A : Int) (E : Nat) (m : Int) : Keep A E m (1 % m) A E := by
  unfold Keep; rw [emod_mul_l, Int.one_mul]
theorem keep_odd {A : Int} {E : Nat} {m n a : Int} {e : Nat} (h : Keep A E m n a e) (ho : e % 2 = 1) : Keep A E m (n * a % m) (a * a % m) (e / 2) := by
  unfold Keep at *
  have h1 : (a * a % m) ^ (e / 2) % m = (a * a) ^ (e / 2) % m := pw_base (a * a) (e / 2) m
  rw [Int.mul_emod, h1, Int.emod_emod, ← Int.mul_emod, ← h]
  congr 1
  rw [show a * a = a ^ 2 from by rw [Int.pow_succ, Int.pow_succ, Int.pow_zero, Int.one_mul], ← Int.pow_mul, Int.mul_assoc]
  congr 1
  rw [← Int.pow_succ']; congr 1; omega
theorem keep_even {A : Int} {E : Nat} {m n a : Int} {e : Nat} (h : Keep A E m n a e) (ho : e % 2 = 0) : Keep A E m n (a * a % m) (e / 2) := by
  unfold Keep at *
  have h1 : (a * a % m) ^ (e / 2) % m = (a * a) ^ (e / 2) % m := pw_base (a * a) (e / 2) m
  rw [Int.mul_emod, h1, ← Int.mul_emod, ← h]
  congr 1
  rw [show a * a = a ^ 2 from by rw [Int.pow_succ, Int.pow_succ, Int.pow_zero, Int.one_mul], ← Int.pow_mul]
  congr 2; omega
theorem keep_end {A : Int} {E : Nat} {m n a : Int} (h : Keep A E m n a 0) (h0 : 0 ≤ n) (h1 : n < m) : n = pw A E m := by
  unfold Keep at h
  rw [Int.pow_zero, Int.mul_one, Int.emod_eq_of_lt h0 h1] at h
  exact h
theorem mul_bd {x y M : Int} (hx : 0 ≤ x) (hx' : x < M) (hy : 0 ≤ y) (hy' : y < M) (hM : M ≤ 1000000) : 0 ≤ x * y ∧ x * y ≤ 1000000000000 := by
  refine ⟨Int.mul_nonneg hx hy, ?_⟩
  calc x * y ≤ 1000000 * 1000000 := Int.mul_le_mul (by omega) (by omega) hy (by omega)
    _ = 1000000000000 := by decide
theorem mod_bd (x : Int) {m : Int} (h : 1 ≤ m) : 0 ≤ x % m ∧ x % m < m := ⟨Int.emod_nonneg _ (by omega), Int.emod_lt_of_pos _ (by omega)⟩
theorem prod2 (x y m : Int) : 1 % m * x % m * y % m = x * y % m := by rw [emod_mul_l 1 x m, Int.one_mul, emod_mul_l]
end Go.Proofs.YtcnpocppgghejaaGreatDoor.M
namespace Go.Proofs.YtcnpocppgghejaaGreatDoor.M

def sumStep (n b : Int) : Int := (n * 251 + b + 1) % 65521
/-- The sum of bytes. -/
def sumL (zs : List Int) : Int := zs.foldl sumStep 17
theorem sumFold_bd : ∀ (zs : List Int) (n : Int), 0 ≤ n → n < 65521 → 0 ≤ zs.foldl sumStep n ∧ zs.foldl sumStep n < 65521
  | [], n, h0, h1 => ⟨h0, h1⟩
  | b :: r, n, _, _ => sumFold_bd r _ (Int.emod_nonneg _ (by omega)) (Int.emod_lt_of_pos _ (by omega))
theorem sumL_bd (zs : List Int) : 0 ≤ sumL zs ∧ sumL zs < 65521 := sumFold_bd zs 17 (by omega) (by omega)
theorem sumL_nil : sumL [] = 17 := rfl
theorem sumL_snoc (zs : List Int) (b : Int) : sumL (zs ++ [b]) = (sumL zs * 251 + b + 1) % 65521 := by
  simp [sumL, List.foldl_append, sumStep]
theorem take_snoc {α : Type} (zs : List α) (d : α) (k : Nat) (h : k < zs.length) : zs.take (k + 1) = zs.take k ++ [zs[k]?.getD d] := by
  rw [List.take_succ_eq_append_getElem h]; simp [h]
theorem sumL_take (zs : List Int) (k : Nat) (h : k < zs.length) : (sumL (zs.take k) * 251 + zs[k]?.getD 0 + 1) % 65521 = sumL (zs.take (k + 1)) := by
  rw [take_snoc zs 0 k h, sumL_snoc]

/-- A byte a to z. -/
def lowB (c : UInt8) : Bool := decide (97 ≤ (c.toNat : Int) ∧ (c.toNat : Int) ≤ 122)
def lowTo (s : ByteArray) (k : Nat) : Bool := (s.data.toList.take k).all lowB
/-- A label: 1 to 12 bytes a to z. -/
def labB (s : ByteArray) : Bool := decide (1 ≤ s.size ∧ s.size ≤ 12) && lowTo s s.size
theorem lowTo_zero (s : ByteArray) : lowTo s 0 = true := by simp [lowTo]
theorem data_take (s : ByteArray) (k : Nat) (h : k < s.size) : s.data.toList.take (k + 1) = s.data.toList.take k ++ [s[k]] := by
  rw [List.take_succ_eq_append_getElem (by simpa using h)]; rfl
theorem lowTo_succ (s : ByteArray) (k : Nat) (h : k < s.size) : lowTo s (k + 1) = (lowTo s k && lowB s[k]) := by
  simp [lowTo, data_take s k h, List.all_append]
theorem lowTo_next (s : ByteArray) (k : Nat) (h : k < s.size) (hl : lowTo s k = true) (h0 : 97 ≤ (s[k].toNat : Int)) (h1 : (s[k].toNat : Int) ≤ 122) : lowTo s (k + 1) = true := by
  rw [lowTo_succ s k h, hl]; simp [lowB]; omega
theorem lowTo_mono (s : ByteArray) : ∀ (d k : Nat), lowTo s (k + d) = true → lowTo s k = true
  | 0, _, h => h
  | d + 1, k, h => by
    have h2 := lowTo_mono s d (k + 1) (by rw [← h]; congr 1; omega)
    rcases Nat.lt_or_ge k s.size with hk | hk
    · rw [lowTo_succ s k hk] at h2; simp only [Bool.and_eq_true] at h2; exact h2.1
    · unfold lowTo at h2 ⊢
      rw [List.take_of_length_le (by simpa using (show s.size ≤ k from hk))]
      rw [List.take_of_length_le (by have : s.data.toList.length = s.size := (by simp); omega)] at h2
      exact h2
theorem labB_stop (s : ByteArray) (k : Nat) (h : k < s.size) (hb : (s[k].toNat : Int) < 97 ∨ 122 < (s[k].toNat : Int)) : labB s = false := by
  have h1 : lowTo s (k + 1) = false := by
    rw [lowTo_succ s k h]
    have : lowB s[k] = false := by simp only [lowB, decide_eq_false_iff_not]; omega
    rw [this]; simp
  have h2 : lowTo s s.size = false := by
    cases he : lowTo s s.size
    · rfl
    · have := lowTo_mono s (s.size - (k + 1)) (k + 1) (by rw [show k + 1 + (s.size - (k + 1)) = s.size by omega]; exact he)
      rw [h1] at this; cases this
  simp [labB, h2]
theorem labB_all (s : ByteArray) (h : lowTo s s.size = true) (h0 : 1 ≤ s.size) (h1 : s.size ≤ 12) : labB s = true := by simp [labB, h, h0, h1]
theorem labB_short (s : ByteArray) (h : s.size < 1) : labB s = false := by simp [labB]; omega
theorem labB_long (s : ByteArray) (h : 12 < s.size) : labB s = false := by simp [labB]; omega
theorem labB_size {s : ByteArray} (h : labB s = true) : 1 ≤ s.size ∧ s.size ≤ 12 := by simp [labB] at h; exact h.1

/-- A sum. -/
def sumB (v : Int) : Bool := decide (0 ≤ v ∧ v ≤ 65520)
/-- The bytes of a text. -/
def textL (s : ByteArray) : List Int := s.data.toList.map fun c => (c.toNat : Int)
def two (n : Int) : List Int := [n / 256, n % 256]
/-- A tag, a byte 0, and each number in two bytes. -/
def tagBytes (s : ByteArray) (zs : List Int) : List Int := textL s ++ [0] ++ zs.flatMap two
def tagL (s : ByteArray) (zs : List Int) : Int := sumL (tagBytes s zs)
theorem tagBytes_nil (s : ByteArray) : tagBytes s [] = textL s ++ [0] := by simp [tagBytes]
theorem tagBytes_snoc (s : ByteArray) (zs : List Int) (n : Int) : tagBytes s (zs ++ [n]) = tagBytes s zs ++ two n := by
  simp [tagBytes, List.flatMap_append]
theorem tagBytes_take (s : ByteArray) (zs : List Int) (k : Nat) (h : k < zs.length) : tagBytes s (zs.take k) ++ two (zs[k]?.getD 0) = tagBytes s (zs.take (k + 1)) := by
  rw [take_snoc zs 0 k h, tagBytes_snoc]
theorem textL_length (s : ByteArray) : (textL s).length = s.size := by simp [textL]
theorem two_length (zs : List Int) : (zs.flatMap two).length = 2 * zs.length := by
  induction zs with
  | nil => rfl
  | cons a r ih => simp only [List.flatMap_cons, List.length_append, ih, two, List.length_cons, List.length_nil]; omega
theorem tagBytes_length (s : ByteArray) (zs : List Int) : (tagBytes s zs).length = s.size + 1 + 2 * zs.length := by
  simp only [tagBytes, List.length_append, textL_length, two_length, List.length_cons, List.length_nil]
def byteB (b : Int) : Prop := 0 ≤ b ∧ b ≤ 255
theorem two_byte {n : Int} (h : sumB n = true) : ∀ b ∈ two n, byteB b := by
  simp only [sumB, decide_eq_true_eq] at h
  intro b hb
  simp only [two, List.mem_cons, List.not_mem_nil, or_false] at hb
  unfold byteB
  omega
theorem textL_byte (s : ByteArray) : ∀ b ∈ textL s, byteB b := by
  intro b hb
  simp only [textL, List.mem_map] at hb
  obtain ⟨c, _, rfl⟩ := hb
  have := c.toNat_lt
  unfold byteB
  omega
theorem tagBytes_byte (s : ByteArray) (zs : List Int) (h : ∀ z ∈ zs, sumB z = true) : ∀ b ∈ tagBytes s zs, byteB b := by
  intro b hb
  simp only [tagBytes, List.mem_append, List.mem_cons, List.not_mem_nil, or_false, List.mem_flatMap] at hb
  rcases hb with (hb | rfl) | ⟨a, ha, hb⟩
  · exact textL_byte s b hb
  · unfold byteB; omega
  · exact two_byte (h a ha) b hb
theorem tagL_bd (s : ByteArray) (zs : List Int) : 0 ≤ tagL s zs ∧ tagL s zs < 65521 := sumL_bd _

def sumR (zs : List Int) : Int × Int := if 1000 < zs.length then (2, 0) else (0, sumL zs)
def tagR (s : ByteArray) (zs : List Int) : Int × Int :=
  if labB s = false then (5, 0) else if 40 < zs.length then (2, 0) else if zs.all sumB then (0, tagL s zs) else (3, 0)
def keyD (k : Int) (s : ByteArray) : Int × Int := if sumB k = false then (3, 0) else if labB s = false then (5, 0) else (0, tagL s [k])
theorem keyD_tag {k : Int} (s : ByteArray) (h : sumB k = true) : keyD k s = tagR s [k] := by
  simp [keyD, tagR, h]
theorem all_take (p : Int → Bool) (zs : List Int) (k : Nat) (h : k < zs.length) (hk : (zs.take k).all p = true) (hp : p (zs[k]?.getD 0) = true) : (zs.take (k + 1)).all p = true := by
  rw [take_snoc zs 0 k h, List.all_append, hk]; simp [hp]
theorem all_stop (p : Int → Bool) (zs : List Int) (k : Nat) (h : k < zs.length) (hp : p (zs[k]?.getD 0) = false) : zs.all p = false := by
  rw [List.all_eq_false]
  refine ⟨zs[k]?.getD 0, by simp [h], by simp [hp]⟩
end Go.Proofs.YtcnpocppgghejaaGreatDoor.M
namespace Go.Proofs.YtcnpocppgghejaaGreatDoor.M

abbrev streamS : ByteArray := { data := #[115, 116, 114, 101, 97, 109] }
abbrev heardS : ByteArray := { data := #[104, 101, 97, 114, 100] }
abbrev nonceS : ByteArray := { data := #[110, 111, 110, 99, 101] }
abbrev signS : ByteArray := { data := #[115, 105, 103, 110] }
abbrev macS : ByteArray := { data := #[109, 97, 99] }
abbrev sealS : ByteArray := { data := #[115, 101, 97, 108] }
abbrev spkiS : ByteArray := { data := #[115, 112, 107, 105] }
def streamB (key seq : Int) (i : Nat) : Int := tagL streamS [key, seq, i] % 256
/-- The first n bytes of a stream. -/
def streamL (key seq : Int) (n : Nat) : List Int := (List.range n).map (streamB key seq)
theorem streamL_zero (key seq : Int) : streamL key seq 0 = [] := rfl
theorem streamL_succ (key seq : Int) (n : Nat) : streamL key seq (n + 1) = streamL key seq n ++ [streamB key seq n] := by simp [streamL, List.range_succ]
theorem streamL_length (key seq : Int) (n : Nat) : (streamL key seq n).length = n := by simp [streamL]
theorem streamB_byte (key seq : Int) (i : Nat) : 0 ≤ streamB key seq i ∧ streamB key seq i ≤ 255 := by unfold streamB; omega
theorem streamL_byte (key seq : Int) (n : Nat) : ∀ b ∈ streamL key seq n, byteB b := by
  intro b hb
  simp only [streamL, List.mem_map] at hb
  obtain ⟨i, _, rfl⟩ := hb
  exact streamB_byte key seq i
theorem streamL_take (key seq : Int) (n k : Nat) (h : k ≤ n) : (streamL key seq n).take k = streamL key seq k := by
  simp [streamL, ← List.map_take, List.take_range, Nat.min_eq_left h]
def strB (key seq n : Int) : Bool := sumB key && sumB seq && decide (0 ≤ n ∧ n ≤ 200)
def strC (key seq n : Int) : Int := if strB key seq n then 0 else 3
def strL (key seq n : Int) : List Int := if strB key seq n then streamL key seq n.toNat else []
theorem strL_byte (key seq n : Int) : ∀ b ∈ strL key seq n, byteB b := by
  unfold strL; split
  · exact streamL_byte _ _ _
  · intro b hb; cases hb

def longB (zs : List Int) : Bool := decide (1000 < zs.length)
def heardL (zss : List (List Int)) : Int := tagL heardS (zss.map sumL)
def heardR (zss : List (List Int)) : Int × Int := if 10 < zss.length then (2, 0) else if zss.any longB then (2, 0) else (0, heardL zss)
theorem sums_ok (zss : List (List Int)) : (zss.map sumL).all sumB = true := by
  rw [List.all_eq_true]
  intro x hx
  obtain ⟨zs, _, rfl⟩ := List.mem_map.1 hx
  have := sumL_bd zs
  simp [sumB]; omega
theorem heard_label : labB heardS = true := by decide +kernel
theorem heardR_tag (zss : List (List Int)) (h : zss.length ≤ 10) (hl : zss.any longB = false) : heardR zss = tagR heardS (zss.map sumL) := by
  have h1 : ¬ 10 < zss.length := by omega
  have h2 : ¬ 40 < zss.length := by omega
  simp only [heardR, tagR, heard_label, h1, hl, if_false, Bool.false_eq_true, List.length_map, h2, sums_ok, if_true, Bool.true_eq_false, heardL]
theorem any_take {α : Type} (p : α → Bool) (zs : List α) (d : α) (k : Nat) (h : k < zs.length) (hk : (zs.take k).any p = false) (hp : p (zs[k]?.getD d) = false) : (zs.take (k + 1)).any p = false := by
  rw [take_snoc zs d k h, List.any_append, hk]; simp [hp]
theorem any_stop {α : Type} (p : α → Bool) (zs : List α) (d : α) (k : Nat) (h : k < zs.length) (hp : p (zs[k]?.getD d) = true) : zs.any p = true := by
  rw [List.any_eq_true]
  exact ⟨zs[k]?.getD d, by simp [h], hp⟩
theorem map_take_snoc {α β : Type} (f : α → β) (zs : List α) (d : α) (k : Nat) (h : k < zs.length) : (zs.take k).map f ++ [f (zs[k]?.getD d)] = (zs.take (k + 1)).map f := by
  rw [take_snoc zs d k h]; simp
end Go.Proofs.YtcnpocppgghejaaGreatDoor.M
namespace Go.Proofs.YtcnpocppgghejaaGreatDoor
open Go.RowKit

def inB (v a b : Int) : Bool := decide (a ≤ v ∧ v ≤ b)

theorem l1In_any (v a b : Int) (w : World) :
    Calls Tryz.prog 70 #[.int .i64 v, .int .i64 a, .int .i64 b] w fun e w' => e = .returned (.bool (inB v a b)) ∧ w = w' := by
  by_cases h1 : a ≤ v
  · by_cases h2 : v ≤ b
    · have e : inB v a b = true := by simp [inB, h1, h2]
      rw [e]; clear e
      go_enter Tryz.func70, Tryz.ntmps70
      go_wp2
      go_ret
      simp
    · have e : inB v a b = false := by simp [inB, h2]
      rw [e]; clear e
      go_enter Tryz.func70, Tryz.ntmps70
      go_wp2
      go_ret
      simp
  · have e : inB v a b = false := by simp [inB, h1]
    rw [e]; clear e
    go_enter Tryz.func70, Tryz.ntmps70
    go_wp2
    go_ret
    simp

def restB (a m : Int) : Bool := decide (1 ≤ m ∧ m ≤ 1000000 ∧ 0 ≤ a ∧ a < m)

theorem product_none (m : Int) (w : World) (h1 : 1 ≤ m) (h2 : m ≤ 1000000) :
    Calls Tryz.prog 88 #[.int .i64 m, .slice none 0 0] w fun e w' => e = .returned (.int .i64 (1 % m)) ∧ w = w' := by
  go_enter Tryz.func88, Tryz.ntmps88
  go_wp2
  refine wp_loop_rounds 1 ?_
  rw [rounds_succ]; go_wp2
  go_ret
  simp

theorem product_two (m x y : Int) (b : Nat) (w : World) (h1 : 1 ≤ m) (h2 : m ≤ 1000000) (hx0 : 0 ≤ x) (hx1 : x < m) (hy0 : 0 ≤ y) (hy1 : y < m)
    (c0 : w.cell? ⟨b, 0, none⟩ = some (.int .i64 x)) (c1 : w.cell? ⟨b, 1, none⟩ = some (.int .i64 y)) :
    Calls Tryz.prog 88 #[.int .i64 m, .slice (some ⟨b, 0, none⟩) 2 2] w fun e w' => e = .returned (.int .i64 (x * y % m)) ∧ w = w' := by
  have b0 := M.mod_bd 1 h1
  have b1 := M.mod_bd (1 % m * x) h1
  have p1 := M.mul_bd b0.1 b0.2 hx0 hx1 h2
  have p2 := M.mul_bd b1.1 b1.2 hy0 hy1 h2
  obtain ⟨b00, b01⟩ := b0
  obtain ⟨b10, b11⟩ := b1
  obtain ⟨p10, p11⟩ := p1
  obtain ⟨p20, p21⟩ := p2
  go_enter Tryz.func88, Tryz.ntmps88
  go_wp2
  refine wp_loop_rounds 3 ?_
  rw [rounds_succ]; go_wp2
  rw [rounds_succ]; go_wp2
  rw [rounds_succ]; go_wp2
  go_ret
  exact ⟨by rw [M.prod2]; rfl, rfl⟩

theorem and_one (n : Int) : bits .and .i64 n 1 = n % 2 := by
  have h1 : (BitVec.ofInt 64 1).toNat = 2 ^ 1 - 1 := by decide
  have key : (BitVec.ofInt 64 n &&& BitVec.ofInt 64 1).toNat = (n % ((2 ^ 64 : Nat) : Int)).toNat % 2 ^ 1 := by
    rw [BitVec.toNat_and, BitVec.toNat_ofInt, h1, Nat.and_two_pow_sub_one_eq_mod]
  show IntKind.i64.wrap ((BitVec.ofInt 64 n &&& BitVec.ofInt 64 1).toNat : Nat) = n % 2
  rw [key, IntKind.wrap_i64]
  omega

theorem bit_of (e k : Nat) : bits .and .i64 ((e : Int) / 2 ^ k) 1 = ((e / 2 ^ k % 2 : Nat) : Int) := by
  rw [and_one]; simp

theorem power_any (m a : Int) (e : Nat) (w : World) (h1 : 1 ≤ m) (h2 : m ≤ 1000000) (ha0 : 0 ≤ a) (ha1 : a < m) :
    Calls Tryz.prog 72 #[.int .i64 m, .int .i64 a, .int .i64 e] w fun r w' => r = .returned (.int .i64 (M.pw a (e % 2 ^ 30) m)) ∧ Below w.heap.size w w' := by
  go_enter Tryz.func72, Tryz.ntmps72
  go_wp2_with fail
  refine (product_none _ _ h1 h2).mono ?_
  rintro r w' ⟨rfl, rfl⟩
  go_wp2_with fail
  go_loopw [7, 8, 13] (fun v q i wr => ∃ k : Nat, k ≤ 30 ∧ i = .int .i64 k ∧ v = .int .i64 (M.pw a (e % 2 ^ k) m) ∧ q = .int .i64 (M.pw a (2 ^ k) m) ∧ Below w.heap.size w wr) (fun _ _ i _ => 30 - (intOf i).toNat)
  case atStart => exact ⟨0, by omega, rfl, by rw [Nat.pow_zero, Nat.mod_one, M.pw_zero], by rw [Nat.pow_zero, M.pw_one ha0 ha1], Below.refl _ _⟩
  case round =>
    obtain ⟨k, hk, rfl, rfl, rfl, hb⟩ := hrel
    obtain ⟨v0, v1⟩ := M.pw_bd a (e % 2 ^ k) h1
    obtain ⟨q0, q1⟩ := M.pw_bd a (2 ^ k) h1
    by_cases hlt : k < 30
    · have hn := bit_of e k
      have Hs := Lib.hid (M.square a k m)
      have hz := hb.size
      by_cases ho : e / 2 ^ k % 2 = 1
      · have ht : (bits .and .i64 ((e : Int) / 2 ^ k) 1 == 1) = true := by rw [hn, ho]; rfl
        have H1 := Lib.hid (M.bit_one a e k m ho)
        clear hn ho
        go_wp2_with fail
        refine (product_two _ _ _ _ _ h1 h2 v0 v1 q0 q1 (by go_simp) (by go_simp)).mono ?_
        rintro r w' ⟨rfl, rfl⟩
        go_wp2_with fail
        refine (product_two _ _ _ _ _ h1 h2 q0 q1 q0 q1 (by go_simp) (by go_simp)).mono ?_
        rintro r w' ⟨rfl, rfl⟩
        go_wp2_with fail
        go_roundw
        case rel => exact ⟨k + 1, by omega, by go_num, by rw [H1.out], by rw [Hs.out], (hb.alloc hz _).alloc (by simp; omega) _⟩
        case measure => simp [intOf]; omega
      · have h0 : e / 2 ^ k % 2 = 0 := by omega
        have ht : (bits .and .i64 ((e : Int) / 2 ^ k) 1 == 1) = false := by rw [hn, h0]; rfl
        have H1 := Lib.hid (M.bit_zero a e k m h0)
        clear hn ho h0
        go_wp2_with fail
        refine (product_two _ _ _ _ _ h1 h2 q0 q1 q0 q1 (by go_simp) (by go_simp)).mono ?_
        rintro r w' ⟨rfl, rfl⟩
        go_wp2_with fail
        go_roundw
        case rel => exact ⟨k + 1, by omega, by go_num, by rw [H1.out], by rw [Hs.out], hb.alloc hz _⟩
        case measure => simp [intOf]; omega
    · obtain rfl : k = 30 := by omega
      go_wp2_with fail
      go_ret
      exact ⟨rfl, hb⟩

theorem power_int (m a e : Int) (w : World) (h1 : 1 ≤ m) (h2 : m ≤ 1000000) (ha0 : 0 ≤ a) (ha1 : a < m) (he0 : 0 ≤ e) (he1 : e ≤ 1000000000) :
    Calls Tryz.prog 72 #[.int .i64 m, .int .i64 a, .int .i64 e] w fun r w' => r = .returned (.int .i64 (M.pw a e.toNat m)) ∧ Below w.heap.size w w' := by
  obtain ⟨n, rfl⟩ := Int.eq_ofNat_of_zero_le he0
  have h : n % 2 ^ 30 = n := Nat.mod_eq_of_lt (by omega)
  have c := power_any m a n w h1 h2 ha0 ha1
  rw [h] at c
  exact c

end Go.Proofs.YtcnpocppgghejaaGreatDoor
namespace Go.Proofs.YtcnpocppgghejaaGreatDoor
open Go.RowKit

theorem ret_int {k : IntKind} {a b : Int} (h : a = b) : Ending.returned (.int k a) = .returned (.int k b) := by rw [h]
theorem ret_bool {a b : Bool} (h : a = b) : Ending.returned (.bool a) = .returned (.bool b) := by rw [h]

end Go.Proofs.YtcnpocppgghejaaGreatDoor
namespace Go.Proofs.YtcnpocppgghejaaGreatDoor.M

/-- A letter of either size, or a digit. -/
def plainB (b : UInt8) : Bool := decide (97 ≤ (b.toNat : Int) ∧ (b.toNat : Int) ≤ 122) || decide (65 ≤ (b.toNat : Int) ∧ (b.toNat : Int) ≤ 90) || decide (48 ≤ (b.toNat : Int) ∧ (b.toNat : Int) ≤ 57)
def dashB (b : UInt8) : Bool := decide ((b.toNat : Int) = 45)
def dotB (b : UInt8) : Bool := decide ((b.toNat : Int) = 46)
/-- What stands at a place: 1 a letter or a digit, 2 a dash, 3 a dot, 0 another byte. -/
def cls (b : UInt8) : Int := if plainB b then 1 else if dashB b then 2 else if dotB b then 3 else 0
/-- .., 4 the end. -/
def chr (l : List UInt8) (k : Nat) : Int := match l[k]? with
  | none => 4
  | some b => cls b
theorem plain_dash {b : UInt8} (h : plainB b = true) : dashB b = false := by
  simp only [plainB, dashB, Bool.or_eq_true, decide_eq_true_eq, decide_eq_false_iff_not] at *
  omega
theorem plain_dot {b : UInt8} (h : plainB b = true) : dotB b = false := by
  simp only [plainB, dotB, Bool.or_eq_true, decide_eq_true_eq, decide_eq_false_iff_not] at *
  omega
theorem dash_dot {b : UInt8} (h : dashB b = true) : dotB b = false := by
  simp only [dashB, dotB, decide_eq_true_eq, decide_eq_false_iff_not] at *
  omega

mutual
/-- The machine: at the beginning of a part. -/
def mDot : List UInt8 → Bool
  | [] => false
  | b :: r => if plainB b then mPlain r else false
/-- Behind a letter or a digit. -/
def mPlain : List UInt8 → Bool
  | [] => true
  | b :: r => if plainB b then mPlain r else if dashB b then mDash r else if dotB b then (if r = [] then true else mDot r) else false
/-- Behind a dash. -/
def mDash : List UInt8 → Bool
  | [] => false
  | b :: r => if plainB b then mPlain r else if dashB b then mDash r else false
end

/-- What the model asks of a byte of a part. -/
def signB (b : UInt8) : Bool := plainB b || dashB b
def partB (w : List UInt8) : Bool := w.all signB && decide (1 ≤ w.length) && !(w.head?.any dashB) && !(w.getLast?.any dashB)
/-- Cut at each dot; 'cur' is what stands ahead. -/
def cutL (cur : List UInt8) : List UInt8 → List (List UInt8)
  | [] => [cur]
  | b :: r => if dotB b then cur :: cutL [] r else cutL (cur ++ [b]) r
/-- Without a dot behind it all. -/
def strip : List UInt8 → List UInt8
  | [] => []
  | b :: r => if dotB b = true ∧ r = [] then [] else b :: strip r
def bare : List UInt8 → List UInt8
  | [] => []
  | b :: r => b :: strip r
/-- What is not a part's beginning, whatever comes. -/
def badB (w : List UInt8) : Bool := w.head?.any dashB || !(w.all signB)
theorem badB_part {w : List UInt8} (h : badB w = true) : partB w = false := by
  unfold badB at h
  unfold partB
  simp only [Bool.or_eq_true, Bool.not_eq_true'] at h
  rcases h with h | h <;> simp [h]
theorem badB_more {w : List UInt8} (h : badB w = true) (b : UInt8) : badB (w ++ [b]) = true := by
  unfold badB at *
  cases w with
  | nil => simp at h
  | cons x r =>
    simp only [List.cons_append, List.head?_cons, Option.any_some, Bool.or_eq_true, Bool.not_eq_true'] at *
    rcases h with h | h
    · exact .inl h
    · right
      rw [← List.cons_append, List.all_append, h]
      rfl
theorem cut_bad : ∀ (r cur : List UInt8), badB cur = true → (cutL cur r).all partB = false
  | [], cur, h => by simp [cutL, badB_part h]
  | b :: r, cur, h => by
    unfold cutL
    split
    · simp [badB_part h]
    · exact cut_bad r _ (badB_more h b)
/-- A part so far: it begins with no dash. 'd': it ends with one. -/
def soFar (w : List UInt8) (d : Bool) : Prop := w ≠ [] ∧ w.all signB = true ∧ w.head?.any dashB = false ∧ w.getLast?.any dashB = d
theorem soFar.part {w : List UInt8} {d : Bool} (h : soFar w d) : partB w = !d := by
  obtain ⟨h1, h2, h3, h4⟩ := h
  unfold partB
  rw [h2, h3, h4]
  have : 1 ≤ w.length := by cases w with
    | nil => exact absurd rfl h1
    | cons => simp
  simp [this]
theorem soFar.more {w : List UInt8} {d : Bool} (h : soFar w d) {b : UInt8} (hb : signB b = true) : soFar (w ++ [b]) (dashB b) := by
  obtain ⟨h1, h2, h3, h4⟩ := h
  refine ⟨by simp, by simp only [List.all_append, h2, List.all_cons, hb, List.all_nil]; rfl, ?_, by simp⟩
  cases w with
  | nil => exact absurd rfl h1
  | cons x r => simpa using h3
theorem soFar.first {b : UInt8} (h : plainB b = true) : soFar [b] false := ⟨by simp, by simp [signB, h], by simp [plain_dash h], by simp [plain_dash h]⟩
theorem strip_cons {b : UInt8} {r : List UInt8} (h : dotB b = false ∨ r ≠ []) : strip (b :: r) = b :: strip r := by
  rw [strip, if_neg]
  rintro ⟨h1, h2⟩
  rcases h with h | h
  · rw [h] at h1; cases h1
  · exact h h2
/-- The machine reads what the model cuts. -/
theorem machine : ∀ (n : Nat) (r : List UInt8), r.length ≤ n →
    (∀ cur, soFar cur false → mPlain r = (cutL cur (strip r)).all partB) ∧ (∀ cur, soFar cur true → mDash r = (cutL cur (strip r)).all partB) ∧ (mDot r = (cutL [] (bare r)).all partB) ∧ (r ≠ [] → mDot r = (cutL [] (strip r)).all partB)
  | n, [], _ => by
    refine ⟨fun cur h => ?_, fun cur h => ?_, ?_, fun h => absurd rfl h⟩
    · simp [mPlain, strip, cutL, h.part]
    · simp [mDash, strip, cutL, h.part]
    · simp [mDot, bare, cutL, partB]
  | 0, b :: r, h => by simp at h
  | n + 1, b :: r, hl => by
    have hr : r.length ≤ n := by simpa using hl
    obtain ⟨hP, hD, hB, hS⟩ := machine n r hr
    have start : mDot (b :: r) = (cutL [] (b :: strip r)).all partB := by
      rw [mDot, cutL]
      split
      · rename_i hb
        rw [plain_dot hb]
        simpa using hP [b] (soFar.first hb)
      · rename_i hb
        split
        · simp [partB]
        · rename_i hd
          have : badB [b] = true := by
            unfold badB signB
            cases h2 : dashB b <;> simp [hb, h2]
          exact (cut_bad _ _ this).symm
    refine ⟨fun cur h => ?_, fun cur h => ?_, start, fun _ => ?_⟩
    · rw [mPlain]
      split
      · rename_i hb
        rw [strip_cons (.inl (plain_dot hb)), cutL, plain_dot hb]
        have := h.more (b := b) (by simp [signB, hb])
        rw [plain_dash hb] at this
        simpa using hP _ this
      split
      · rename_i hb
        rw [strip_cons (.inl (dash_dot hb)), cutL, dash_dot hb]
        have := h.more (b := b) (by simp [signB, hb])
        rw [hb] at this
        simpa using hD _ this
      split
      · rename_i hb
        split
        · rename_i hn
          rw [strip, if_pos ⟨hb, hn⟩]
          simp [cutL, h.part]
        · rename_i hn
          rw [strip_cons (.inr hn), cutL, hb]
          simp [h.part, hS hn]
      · rename_i h1 h2 h3
        simp only [Bool.not_eq_true] at h1 h2 h3
        rw [strip_cons (.inl h3), cutL, h3]
        have : badB (cur ++ [b]) = true := by
          unfold badB
          simp [signB, h1, h2]
        simpa using (cut_bad _ _ this).symm
    · rw [mDash]
      split
      · rename_i hb
        rw [strip_cons (.inl (plain_dot hb)), cutL, plain_dot hb]
        have := h.more (b := b) (by simp [signB, hb])
        rw [plain_dash hb] at this
        simpa using hP _ this
      split
      · rename_i hb
        rw [strip_cons (.inl (dash_dot hb)), cutL, dash_dot hb]
        have := h.more (b := b) (by simp [signB, hb])
        rw [hb] at this
        simpa using hD _ this
      · rename_i h1 h2
        simp only [Bool.not_eq_true] at h1 h2
        cases h3 : dotB b
        · rw [strip_cons (.inl h3), cutL, h3]
          have : badB (cur ++ [b]) = true := by
            unfold badB
            simp [signB, h1, h2]
          simpa using (cut_bad _ _ this).symm
        · by_cases hn : r = []
          · rw [strip, if_pos ⟨h3, hn⟩]
            simp [cutL, h.part]
          · rw [strip_cons (.inr hn), cutL, h3]
            simp [h.part]
    · cases h3 : dotB b
      · rw [strip_cons (.inl h3), start]
      · by_cases hn : r = []
        · subst hn
          rw [strip, if_pos ⟨h3, rfl⟩, start]
          simp [strip, cutL, h3, partB]
        · rw [strip_cons (.inr hn), start]
theorem hasP_eq (l : List UInt8) : mDot l = (cutL [] (bare l)).all partB := (machine _ l (Nat.le_refl _)).2.2.1

theorem cls_eq (b : UInt8) : cls b = if (97 ≤ (b.toNat : Int) ∧ (b.toNat : Int) ≤ 122) ∨ (65 ≤ (b.toNat : Int) ∧ (b.toNat : Int) ≤ 90) ∨ (48 ≤ (b.toNat : Int) ∧ (b.toNat : Int) ≤ 57) then 1 else if (b.toNat : Int) = 45 then 2 else if (b.toNat : Int) = 46 then 3 else 0 := by
  unfold cls plainB dashB dotB
  simp only [Bool.or_eq_true, decide_eq_true_eq, or_assoc]
theorem chr_at (s : ByteArray) (k : Nat) (h : k < s.size) : chr s.data.toList k = cls s[k] := by
  have e : s.data.toList[k]? = some s[k] := by
    rw [Array.getElem?_toList]
    exact Array.getElem?_eq_getElem h
  unfold chr
  rw [e]
theorem chr_end (s : ByteArray) (k : Nat) (h : s.size ≤ k) : chr s.data.toList k = 4 := by
  have e : s.data.toList[k]? = none := by
    rw [Array.getElem?_toList]
    exact Array.getElem?_eq_none h
  unfold chr
  rw [e]
theorem cls_plain {b : UInt8} (h : plainB b = true) : cls b = 1 := by simp [cls, h]
theorem cls_dash {b : UInt8} (h : dashB b = true) : cls b = 2 := by
  have : plainB b = false := by
    cases h2 : plainB b
    · rfl
    · rw [plain_dash h2] at h; cases h
  simp [cls, h, this]
theorem cls_dot {b : UInt8} (h : dotB b = true) : cls b = 3 := by
  have h1 : plainB b = false := by
    cases h2 : plainB b
    · rfl
    · rw [plain_dot h2] at h; cases h
  have h2 : dashB b = false := by
    cases h2 : dashB b
    · rfl
    · rw [dash_dot h2] at h; cases h
  simp [cls, h, h1, h2]
theorem cls_other {b : UInt8} (h1 : plainB b = false) (h2 : dashB b = false) (h3 : dotB b = false) : cls b = 0 := by simp [cls, h1, h2, h3]
/-- The machine's three states, at a place: what 'chr' tells and what is left. -/
inductive Step (l : List UInt8) (k : Nat) : Prop
  | plain : chr l k = 1 → k < l.length → mDot (l.drop k) = mPlain (l.drop (k + 1)) → mPlain (l.drop k) = mPlain (l.drop (k + 1)) → mDash (l.drop k) = mPlain (l.drop (k + 1)) → Step l k
  | dash : chr l k = 2 → k < l.length → mDot (l.drop k) = false → mPlain (l.drop k) = mDash (l.drop (k + 1)) → mDash (l.drop k) = mDash (l.drop (k + 1)) → Step l k
  | dotMore : chr l k = 3 → k + 1 < l.length → mDot (l.drop k) = false → mPlain (l.drop k) = mDot (l.drop (k + 1)) → mDash (l.drop k) = false → Step l k
  | dotLast : chr l k = 3 → k + 1 = l.length → mDot (l.drop k) = false → mPlain (l.drop k) = true → mDash (l.drop k) = false → Step l k
  | other : chr l k = 0 → k < l.length → mDot (l.drop k) = false → mPlain (l.drop k) = false → mDash (l.drop k) = false → Step l k
  | ends : chr l k = 4 → l.length ≤ k → mDot (l.drop k) = false → mPlain (l.drop k) = true → mDash (l.drop k) = false → Step l k
theorem step (l : List UInt8) (k : Nat) : Step l k := by
  rcases Nat.lt_or_ge k l.length with h | h
  · have e : l.drop k = l[k] :: l.drop (k + 1) := List.drop_eq_getElem_cons h
    have ec : chr l k = cls l[k] := by simp [chr, h]
    generalize l[k] = b at e ec
    cases h1 : plainB b
    · cases h2 : dashB b
      · cases h3 : dotB b
        · exact .other (ec.trans (cls_other h1 h2 h3)) h (by rw [e]; simp [mDot, h1]) (by rw [e]; simp [mPlain, h1, h2, h3]) (by rw [e]; simp [mDash, h1, h2])
        · rcases Nat.lt_or_ge (k + 1) l.length with hk | hk
          · refine .dotMore (ec.trans (cls_dot h3)) hk (by rw [e]; simp [mDot, h1]) ?_ (by rw [e]; simp [mDash, h1, h2])
            rw [e, mPlain, if_neg (by simp [h1]), if_neg (by simp [h2]), if_pos h3, if_neg]
            intro hn
            have := congrArg List.length hn
            simp at this
            omega
          · refine .dotLast (ec.trans (cls_dot h3)) (by omega) (by rw [e]; simp [mDot, h1]) ?_ (by rw [e]; simp [mDash, h1, h2])
            rw [e, mPlain, if_neg (by simp [h1]), if_neg (by simp [h2]), if_pos h3, if_pos (List.drop_eq_nil_iff.2 hk)]
      · exact .dash (ec.trans (cls_dash h2)) h (by rw [e]; simp [mDot, h1]) (by rw [e]; simp [mPlain, h1, h2]) (by rw [e]; simp [mDash, h1, h2])
    · exact .plain (ec.trans (cls_plain h1)) h (by rw [e]; simp [mDot, h1]) (by rw [e]; simp [mPlain, h1]) (by rw [e]; simp [mDash, h1])
  · have e : l.drop k = [] := List.drop_eq_nil_iff.2 h
    exact .ends (by simp [chr, h]) h (by rw [e]; simp [mDot]) (by rw [e]; simp [mPlain]) (by rw [e]; simp [mDash])

theorem signB_eq (b : UInt8) : signB b = decide ((97 ≤ (b.toNat : Int) ∧ (b.toNat : Int) ≤ 122) ∨ (65 ≤ (b.toNat : Int) ∧ (b.toNat : Int) ≤ 90) ∨ (48 ≤ (b.toNat : Int) ∧ (b.toNat : Int) ≤ 57) ∨ (b.toNat : Int) = 45) := by
  unfold signB plainB dashB
  simp only [Bool.decide_or, Bool.or_assoc]
def signTo (s : ByteArray) (k : Nat) : Bool := (s.data.toList.take k).all signB
theorem signTo_zero (s : ByteArray) : signTo s 0 = true := by simp [signTo]
theorem signTo_next (s : ByteArray) (k : Nat) (h : k < s.size) (hl : signTo s k = true) (hb : signB s[k] = true) : signTo s (k + 1) = true := by
  unfold signTo at *
  rw [data_take s k h, List.all_append, hl]
  simp [hb]
theorem signTo_all (s : ByteArray) (h : signTo s s.size = true) : s.data.toList.all signB = true := by
  unfold signTo at h
  rwa [List.take_of_length_le (by simp)] at h
theorem partB_stop (s : ByteArray) (k : Nat) (h : k < s.size) (hb : signB s[k] = false) : partB s.data.toList = false := by
  have : s.data.toList.all signB = false := by
    rw [List.all_eq_false]
    exact ⟨s[k], by rw [Array.mem_toList_iff]; exact Array.getElem_mem h, by simp [hb]⟩
  simp [partB, this]
theorem partB_short (s : ByteArray) (h : s.size < 1) : partB s.data.toList = false := by
  have e : s.data.toList = [] := List.eq_nil_of_length_eq_zero (by rw [Array.length_toList]; show s.size = 0; omega)
  rw [e]; rfl
theorem head_at (s : ByteArray) (h : 0 < s.size) : s.data.toList.head? = some s[0] := by
  rw [List.head?_eq_getElem?, Array.getElem?_toList]
  exact Array.getElem?_eq_getElem h
theorem last_at (s : ByteArray) (n : Nat) (h : s.size = n + 1) : s.data.toList.getLast? = some (s[n]'(by omega)) := by
  have hl : s.data.toList.length = n + 1 := by simpa using h
  rw [List.getLast?_eq_getElem?, hl, Array.getElem?_toList]
  exact Array.getElem?_eq_getElem (show n < s.data.size from by have : s.data.size = s.size := rfl; omega)
theorem partB_ends (s : ByteArray) (n : Nat) (h : s.size = n + 1) (ha : signTo s s.size = true) : partB s.data.toList = (!(dashB (s[0]'(by omega))) && !(dashB (s[n]'(by omega)))) := by
  unfold partB
  rw [signTo_all s ha, head_at s (by omega), last_at s n h, decide_eq_true (show 1 ≤ s.data.toList.length by rw [Array.length_toList]; show 1 ≤ s.size; omega)]
  simp
/-- A text of these bytes. -/
def bs (l : List UInt8) : ByteArray := ⟨l.toArray⟩
theorem bs_list (l : List UInt8) : (bs l).data.toList = l := by simp [bs]
theorem bs_size (l : List UInt8) : (bs l).size = l.length := by simp [bs, ByteArray.size]
theorem bs_data (s : ByteArray) : bs s.data.toList = s := by simp [bs]
theorem bs_extract (s : ByteArray) (a b : Nat) : s.extract a b = bs ((s.data.toList.drop a).take (b - a)) := Lib.extract_eq s a b
theorem strip_last : ∀ (r : List UInt8), strip r = if r.getLast?.any dotB then r.take (r.length - 1) else r
  | [] => by simp [strip]
  | [b] => by
    rw [strip]
    by_cases h : dotB b = true <;> simp [h, strip]
  | b :: c :: r => by
    rw [strip_cons (.inr (by simp)), strip_last (c :: r)]
    simp only [List.getLast?_cons_cons]
    split
    · simp
    · rfl
theorem bare_last (l : List UInt8) : bare l = if 1 < l.length ∧ l.getLast?.any dotB = true then l.take (l.length - 1) else l := by
  cases l with
  | nil => simp [bare]
  | cons b r =>
    cases r with
    | nil => simp [bare, strip]
    | cons c r =>
      rw [bare, strip_last]
      simp only [List.getLast?_cons_cons]
      by_cases h : (c :: r).getLast?.any dotB = true
      · rw [if_pos h, if_pos ⟨by simp, h⟩]
        simp
      · rw [if_neg h, if_neg (fun e => h e.2)]
theorem bare_one (s : ByteArray) (h : s.size ≤ 1) : bs (bare s.data.toList) = s := by
  have : s.data.toList.length = s.size := by simp
  rw [bare_last, if_neg (by omega), bs_data]
theorem bare_dot (s : ByteArray) (n : Nat) (h : s.size = n + 2) (hd : dotB (s[n + 1]'(by omega)) = true) : bs (bare s.data.toList) = s.extract 0 (n + 1) := by
  have hl : s.data.toList.length = s.size := by simp
  rw [bare_last, if_pos ⟨by omega, by rw [last_at s (n + 1) h]; simpa using hd⟩, bs_extract]
  simp [h]
theorem bare_not (s : ByteArray) (n : Nat) (h : s.size = n + 2) (hd : dotB (s[n + 1]'(by omega)) = false) : bs (bare s.data.toList) = s := by
  rw [bare_last, if_neg (by rw [last_at s (n + 1) h]; simp [hd]), bs_data]
/-- While it is cut: 'done' are the parts that stand already, the next one begins at f. -/
def CutAt (l : List UInt8) (done : List (List UInt8)) (f k : Nat) : Prop := f ≤ k ∧ k ≤ l.length ∧ cutL [] l = done ++ cutL ((l.drop f).take (k - f)) (l.drop k)
theorem CutAt.zero (l : List UInt8) : CutAt l [] 0 0 := ⟨by omega, by omega, by simp⟩
theorem CutAt.next {l : List UInt8} {done : List (List UInt8)} {f k : Nat} {b : UInt8} (h : CutAt l done f k) (hb : l[k]? = some b) (hd : dotB b = false) : CutAt l done f (k + 1) := by
  obtain ⟨h1, h2, h3⟩ := h
  have hk : k < l.length := (List.getElem?_eq_some_iff.1 hb).1
  have e : l.drop k = b :: l.drop (k + 1) := by rw [List.drop_eq_getElem_cons hk]; congr 1; rw [List.getElem?_eq_getElem hk] at hb; exact Option.some.inj hb
  refine ⟨by omega, by omega, ?_⟩
  rw [h3, e, cutL, if_neg (by simp [hd])]
  congr 2
  rw [show k + 1 - f = (k - f) + 1 by omega, List.take_add_one, List.getElem?_drop, show f + (k - f) = k by omega, hb]
  rfl
theorem CutAt.cut {l : List UInt8} {done : List (List UInt8)} {f k : Nat} {b : UInt8} (h : CutAt l done f k) (hb : l[k]? = some b) (hd : dotB b = true) : CutAt l (done ++ [(l.drop f).take (k - f)]) (k + 1) (k + 1) := by
  obtain ⟨h1, h2, h3⟩ := h
  have hk : k < l.length := (List.getElem?_eq_some_iff.1 hb).1
  have e : l.drop k = b :: l.drop (k + 1) := by rw [List.drop_eq_getElem_cons hk]; congr 1; rw [List.getElem?_eq_getElem hk] at hb; exact Option.some.inj hb
  refine ⟨by omega, by omega, ?_⟩
  rw [h3, e, cutL, if_pos hd]
  simp
theorem CutAt.last {l : List UInt8} {done : List (List UInt8)} {f : Nat} (h : CutAt l done f l.length) : cutL [] l = done ++ [(l.drop f).take (l.length - f)] := by
  obtain ⟨h1, h2, h3⟩ := h
  rw [h3]
  simp [cutL]
theorem cutL_length : ∀ (r cur : List UInt8), (cutL cur r).length ≤ r.length + 1
  | [], cur => by simp [cutL]
  | b :: r, cur => by
    rw [cutL]
    split
    · have := cutL_length r []; simp; omega
    · have := cutL_length r (cur ++ [b]); simp; omega
theorem cutL_part : ∀ (r cur : List UInt8), ∀ p ∈ cutL cur r, p.length ≤ cur.length + r.length
  | [], cur, p, h => by simp [cutL] at h; simp [h]
  | b :: r, cur, p, h => by
    rw [cutL] at h
    split at h
    · rcases List.mem_cons.1 h with rfl | h
      · omega
      · have := cutL_part r [] p h; simp at this ⊢; omega
    · have := cutL_part r (cur ++ [b]) p h; simp at this ⊢; omega
theorem CutAt.done_le {l : List UInt8} {done : List (List UInt8)} {f k : Nat} (h : CutAt l done f k) : done.length ≤ l.length + 1 := by
  have := cutL_length l []
  rw [h.2.2] at this
  simp at this
  omega

/-- What is wrong with a name. -/
def nameF (l : List UInt8) : Int := if 20 < l.length then 2 else if mDot l then 0 else 5
theorem nameF_long {l : List UInt8} (h : 20 < l.length) : nameF l = 2 := by simp [nameF, h]
theorem nameF_no {l : List UInt8} (h : ¬ 20 < l.length) (hm : mDot l = false) : nameF l = 5 := by simp [nameF, h, hm]
theorem nameF_yes {l : List UInt8} (h : ¬ 20 < l.length) (hm : mDot l = true) : nameF l = 0 := by simp [nameF, h, hm]
theorem nameF_zero {l : List UInt8} (h : nameF l = 0) : l.length ≤ 20 ∧ mDot l = true := by
  unfold nameF at h
  split at h
  · omega
  split at h
  · rename_i h2; exact ⟨by omega, h2⟩
  · omega
theorem nameF_cases (l : List UInt8) : nameF l = 2 ∨ nameF l = 5 ∨ nameF l = 0 := by
  unfold nameF
  split
  · exact .inl rfl
  split
  · exact .inr (.inr rfl)
  · exact .inr (.inl rfl)

/-- All the bytes of a name are below 128, and the dot behind it all is gone. -/
theorem ascii : ∀ (n : Nat) (r : List UInt8), r.length ≤ n → (mPlain r = true ∨ mDash r = true ∨ mDot r = true) → ∀ b ∈ r, b.toNat < 128
  | _, [], _, _ => by simp
  | 0, _ :: _, h, _ => by simp at h
  | n + 1, b :: r, hl, h => by
    have hr : r.length ≤ n := by simpa using hl
    have hp : ∀ {b : UInt8}, plainB b = true → b.toNat < 128 := by
      intro b hb
      simp only [plainB, Bool.or_eq_true, decide_eq_true_eq] at hb
      omega
    have hd : ∀ {b : UInt8}, dashB b = true → b.toNat < 128 := by
      intro b hb
      simp only [dashB, decide_eq_true_eq] at hb
      omega
    have ht : ∀ {b : UInt8}, dotB b = true → b.toNat < 128 := by
      intro b hb
      simp only [dotB, decide_eq_true_eq] at hb
      omega
    have key : b.toNat < 128 ∧ (r = [] ∨ mPlain r = true ∨ mDash r = true ∨ mDot r = true) := by
      rcases h with h | h | h
      · rw [mPlain] at h
        split at h
        · rename_i hb; exact ⟨hp hb, .inr (.inl h)⟩
        split at h
        · rename_i hb; exact ⟨hd hb, .inr (.inr (.inl h))⟩
        split at h
        · rename_i hb
          split at h
          · rename_i hn; exact ⟨ht hb, .inl hn⟩
          · exact ⟨ht hb, .inr (.inr (.inr h))⟩
        · cases h
      · rw [mDash] at h
        split at h
        · rename_i hb; exact ⟨hp hb, .inr (.inl h)⟩
        split at h
        · rename_i hb; exact ⟨hd hb, .inr (.inr (.inl h))⟩
        · cases h
      · rw [mDot] at h
        split at h
        · rename_i hb; exact ⟨hp hb, .inr (.inl h)⟩
        · cases h
    intro c hc
    rcases List.mem_cons.1 hc with rfl | hc
    · exact key.1
    · rcases key.2 with rfl | h2
      · simp at hc
      · exact ascii n r hr h2 c hc
theorem name_ascii {l : List UInt8} (h : mDot l = true) : ∀ (j : Nat) (b : UInt8), l[j]? = some b → b.toNat < 128 := fun _ b hb => ascii _ l (Nat.le_refl _) (.inr (.inr h)) b (List.mem_of_getElem? hb)
theorem strip_trim : ∀ (r : List UInt8), r ≠ [] → Lib.trimSuffix r [46] = strip r
  | [], h => absurd rfl h
  | b :: r, _ => by
    by_cases hn : r = []
    · subst hn
      have e : dotB b = (b == 46) := by
        by_cases hb : b = 46
        · subst hb; decide
        · have : ¬ (b.toNat : Int) = 46 := fun h => hb (UInt8.toNat_inj.1 (by simpa using (show b.toNat = 46 by omega)))
          simp [dotB, this, hb]
      by_cases hb : b = 46
      · subst hb; decide
      · have h1 : dotB b = false := by rw [e]; simpa using hb
        simp [strip, h1, Lib.trimSuffix, Lib.hasSuffix, List.isSuffixOf]
        intro h; exact absurd h.symm hb
    · rw [strip_cons (.inr hn), ← strip_trim r hn]
      unfold Lib.trimSuffix Lib.hasSuffix
      have hl : 1 ≤ r.length := by cases r with
        | nil => exact absurd rfl hn
        | cons => simp
      have e : ([46] : List UInt8).isSuffixOf (b :: r) = ([46] : List UInt8).isSuffixOf r := by
        rw [Bool.eq_iff_iff, List.isSuffixOf_iff_suffix, List.isSuffixOf_iff_suffix]
        constructor
        · rintro ⟨t, ht⟩
          cases t with
          | nil => simp at ht; exact absurd ht.2.symm (by simpa using hn)
          | cons x t => simp at ht; exact ⟨t, ht.2⟩
        · rintro ⟨t, ht⟩
          exact ⟨b :: t, by simp [ht]⟩
      rw [e]
      split
      · simp only [List.length_cons, List.length_nil]
        rw [show r.length + 1 - (0 + 1) = (r.length - (0 + 1)) + 1 by omega, List.take_succ_cons]
      · rfl
theorem bare_trim {l : List UInt8} (h : mDot l = true) : Lib.trimSuffix l [46] = bare l := by
  cases l with
  | nil => simp [mDot] at h
  | cons b r =>
    have hb : plainB b = true := by
      rw [mDot] at h
      split at h
      · assumption
      · cases h
    rw [strip_trim _ (by simp), strip_cons (.inl (plain_dot hb))]
    rfl
theorem strip_mem : ∀ (r : List UInt8), ∀ b ∈ strip r, b ∈ r
  | [], b, h => by simp [strip] at h
  | c :: r, b, h => by
    rw [strip] at h
    split at h
    · simp at h
    · rcases List.mem_cons.1 h with rfl | h
      · simp
      · exact List.mem_cons_of_mem _ (strip_mem r b h)
theorem bare_mem (l : List UInt8) : ∀ b ∈ bare l, b ∈ l := by
  cases l with
  | nil => simp [bare]
  | cons c r =>
    intro b h
    rcases List.mem_cons.1 h with rfl | h
    · simp
    · exact List.mem_cons_of_mem _ (strip_mem r b h)
theorem bare_ascii {l : List UInt8} (h : mDot l = true) : ∀ (j : Nat) (b : UInt8), (bare l)[j]? = some b → b.toNat < 128 := fun _ b hb => ascii _ l (Nat.le_refl _) (.inr (.inr h)) b (bare_mem l b (List.mem_of_getElem? hb))
/-- The normal form. -/
def nrm (l : List UInt8) : List UInt8 := Lib.toLowerA (bare l)
theorem strip_length : ∀ r : List UInt8, (strip r).length ≤ r.length
  | [] => by simp [strip]
  | b :: r => by
    rw [strip]
    split
    · simp
    · have := strip_length r; simpa using this
theorem bare_length (l : List UInt8) : (bare l).length ≤ l.length := by
  cases l with
  | nil => simp [bare]
  | cons b r => have := strip_length r; simpa [bare] using this
theorem nrm_length (l : List UInt8) : (nrm l).length ≤ l.length := by
  unfold nrm Lib.toLowerA
  rw [List.length_map]
  exact bare_length l
/-- What is wrong with a name that has to be a normal one. -/
def normF (l : List UInt8) : Int := if nameF l = 0 then (if nrm l = l then 0 else 1) else nameF l
/-- What is wrong with a supplied key. -/
def tlsaB (u m v : Int) : Bool := decide (0 ≤ u ∧ u ≤ 3) && decide (0 ≤ m ∧ m ≤ 1) && sumB v
def tlsaF (l : List UInt8) (u m v : Int) : Int := if normF l = 0 then (if tlsaB u m v then 0 else 3) else normF l
theorem normF_zero {l : List UInt8} (h : normF l = 0) : nameF l = 0 ∧ nrm l = l := by
  unfold normF at h
  split at h
  · rename_i h0
    split at h
    · rename_i h1; exact ⟨h0, h1⟩
    · omega
  · exact absurd h (by assumption)
theorem tlsaF_zero {l : List UInt8} {u m v : Int} (h : tlsaF l u m v = 0) : normF l = 0 ∧ tlsaB u m v = true := by
  unfold tlsaF at h
  split at h
  · rename_i h0
    split at h
    · rename_i h1; exact ⟨h0, h1⟩
    · omega
  · exact absurd h (by assumption)
end Go.Proofs.YtcnpocppgghejaaGreatDoor.M
namespace Go.Proofs.YtcnpocppgghejaaGreatDoor
open Go Go.RowKit

/-- As Q; by a goto: what is held at its label. -/
def jumps (J : Nat → Act → World → Prop) (Q : Exit → Act → World → Prop) : Exit → Act → World → Prop
  | .goto l, a, w => J l a w
  | e, a, w => Q e a w

theorem wp_scope_labels {P : Program} {a : Act} {w : World} {Q : Exit → Act → World → Prop} {c : Code} (J : Nat → Act → World → Prop) (m : Nat → Act → World → Nat)
    (first : c.wp P (jumps J Q) a w)
    (pass : ∀ l a w, J l a w → ∃ rest, findLabel c l = some rest ∧ rest.wp P (jumps (fun l' a' w' => J l' a' w' ∧ m l' a' w' < m l a w) Q) a w) : (Code.scope c).wp P Q a w := by
  intro b k cs
  have key : ∀ n l a w, m l a w = n → J l a w → ∃ rest, findLabel c l = some rest ∧ ∃ e a' w', Q e a' w' ∧ Arrives P (lone (b.at a (.code rest :: .inScope c :: k)) cs w) b k cs e a' w' := by
    intro n
    induction n using Nat.strongRecOn with
    | _ n ih =>
      intro l a w hn hJ
      obtain ⟨rest, hf, hp⟩ := pass l a w hJ
      refine ⟨rest, hf, ?_⟩
      obtain ⟨e, a₁, w₁, hq, harr⟩ := hp b (.inScope c :: k) cs
      cases e with
      | normal => exact ⟨.normal, a₁, w₁, hq, Steps.trans harr (.one step_inScope)⟩
      | exit id => exact ⟨.exit id, a₁, w₁, hq, fun k' hk => harr k' (by simp [exitTo, hk])⟩
      | goto l' =>
        obtain ⟨hJ', hlt⟩ := hq
        obtain ⟨rest', hf', e₂, a₂, w₂, hq₂, harr₂⟩ := ih _ (by omega) l' a₁ w₁ rfl hJ'
        have hg : gotoIn l' (.inScope c :: k) = some (.code rest' :: .inScope c :: k) := by simp [gotoIn, hf']
        exact ⟨e₂, a₂, w₂, hq₂, .of_steps (harr _ hg) harr₂⟩
      | ret => exact ⟨_, a₁, w₁, hq, harr⟩
      | panic ch => exact ⟨_, a₁, w₁, hq, harr⟩
      | outgrown => exact ⟨_, a₁, w₁, hq, harr⟩
  obtain ⟨e, a₁, w₁, hq, harr⟩ := first b (.inScope c :: k) cs
  cases e with
  | normal => exact ⟨.normal, a₁, w₁, hq, .head step_scope (Steps.trans harr (.one step_inScope))⟩
  | exit id => exact ⟨.exit id, a₁, w₁, hq, fun k' hk => .head step_scope (harr k' (by simp [exitTo, hk]))⟩
  | goto l' =>
    obtain ⟨rest', hf', e₂, a₂, w₂, hq₂, harr₂⟩ := key _ l' a₁ w₁ rfl hq
    have hg : gotoIn l' (.inScope c :: k) = some (.code rest' :: .inScope c :: k) := by simp [gotoIn, hf']
    exact ⟨e₂, a₂, w₂, hq₂, .of_steps (.head step_scope (harr _ hg)) harr₂⟩
  | ret => exact ⟨_, a₁, w₁, hq, .of_steps (.one step_scope) harr⟩
  | panic ch => exact ⟨_, a₁, w₁, hq, .of_steps (.one step_scope) harr⟩
  | outgrown => exact ⟨_, a₁, w₁, hq, .of_steps (.one step_scope) harr⟩
end Go.Proofs.YtcnpocppgghejaaGreatDoor
namespace Go.Proofs.YtcnpocppgghejaaGreatDoor
open Go.RowKit
set_option maxRecDepth 100000
set_option linter.unusedVariables false

theorem charAt_any (s : ByteArray) (k : Nat) (w : World) (hs : s.size ≤ maxLen) (hk : k ≤ 1000) :
    Calls Tryz.prog 77 #[.string s, .int .i64 k] w fun e w' => e = .returned (.int .i64 (M.chr s.data.toList k)) ∧ w = w' := by
  unfold maxLen at hs
  by_cases hlt : k < s.size
  · have HC := Lib.hid ((M.chr_at s k hlt).trans (M.cls_eq _))
    go_enter Tryz.func77, Tryz.ntmps77
    go_wp2_with fail
    all_goals
      go_ret
      refine ⟨ret_int ?_, rfl⟩
      (try simp only [beq_iff_eq, beq_eq_false_iff_ne, ne_eq] at *)
      rw [HC.out]
      repeat' (first | rfl | omega | split)
  · have HC := Lib.hid (M.chr_end s k (by omega))
    have hge : (s.size : Int) ≤ k := by omega
    go_enter Tryz.func77, Tryz.ntmps77
    go_wp2_with fail
    go_ret
    exact ⟨ret_int HC.out.symm, rfl⟩

/-- What holds where the machine comes to a label. -/
def AtLab (l : List UInt8) : Nat → Nat → Prop
  | 0, k => M.mDot (l.drop k) = M.mDot l
  | 1, k => M.mPlain (l.drop (k + 1)) = M.mDot l
  | 2, k => M.mDash (l.drop (k + 1)) = M.mDot l
  | _, _ => False
def PartsJ (s : ByteArray) (w : World) (lab : Nat) (a' : Act) (w' : World) : Prop :=
  w = w' ∧ ∃ (i : Int) (k : Nat) (u4 u5 u6 u7 u8 u9 u10 u11 u12 u13 u14 u15 u16 u17 u18 u19 u20 u21 u22 u23 u24 u25 u26 u27 u28 u29 u30 u31 u32 u33 u34 u35 : Value), a' = { tmps := #[.string s, undef, .bool false, .int .i64 i, u4, u5, u6, u7, u8, u9, u10, u11, u12, u13, u14, u15, u16, u17, u18, u19, u20, u21, u22, u23, u24, u25, u26, u27, u28, u29, u30, u31, u32, u33, u34, u35], defers := [] } ∧ i = k ∧ k < s.size ∧ AtLab s.data.toList lab k
def placeOf (a : Act) : Nat := (intOf (a.tmps.getD 3 undef)).toNat

theorem hasParts_any (s : ByteArray) (w : World) (hs : s.size ≤ 20) :
    Calls Tryz.prog 61 #[.string s] w fun e w' => e = .returned (.bool (M.mDot s.data.toList)) ∧ w = w' := by
  have hm : s.size ≤ maxLen := by simp only [maxLen]; omega
  have C : ∀ (i : Int) (k : Nat) (c : Int), M.chr s.data.toList k = c → i = k → k ≤ 1000 → ∀ w, Calls Tryz.prog 77 #[.string s, .int .i64 i] w fun e w' => e = .returned (.int .i64 c) ∧ w = w' := by
    intro i k c hc hi hk w
    subst hi
    subst hc
    exact charAt_any s k w hm hk
  have hL : s.data.toList.length = s.size := by simp
  have S := fun k => M.step s.data.toList k
  have h0 : M.mDot (s.data.toList.drop 0) = M.mDot s.data.toList := rfl
  obtain ⟨B, hB⟩ : ∃ B, B = M.mDot s.data.toList := ⟨_, rfl⟩
  have fin : ∀ (b : Bool), b = B → Ending.returned (.bool b) = .returned (.bool (M.mDot s.data.toList)) := fun _ h => by rw [h, hB]
  have HF := Lib.hid fin
  have HB := Lib.hid hB
  clear fin hB
  go_enter Tryz.func61, Tryz.ntmps61
  go_wp2_with fail
  refine wp_scope_labels (PartsJ s w) (fun _ a' _ => s.size - placeOf a') ?_ ?_
  · go_wp2_with fail
    go_step3
    rcases S (0) with ⟨e, hl, d, p, q⟩ | ⟨e, hl, d, p, q⟩ | ⟨e, hl, d, p, q⟩ | ⟨e, hl, d, p, q⟩ | ⟨e, hl, d, p, q⟩ | ⟨e, hl, d, p, q⟩
    · go_wp2_with fail
      refine (C 0 (0) _ e (by omega) (by omega) _).mono ?_
      rintro r w' ⟨rfl, rfl⟩
      have h1 := d.symm.trans h0
      clear e
      go_wp2_with fail
      go_step3
      rcases S (0 + 1) with ⟨e, hl, d, p, q⟩ | ⟨e, hl, d, p, q⟩ | ⟨e, hl, d, p, q⟩ | ⟨e, hl, d, p, q⟩ | ⟨e, hl, d, p, q⟩ | ⟨e, hl, d, p, q⟩ <;> clear S
      · go_wp2_with fail
        refine (C (0 + 1) (0 + 1) _ e (by omega) (by omega) _).mono ?_
        rintro r w' ⟨rfl, rfl⟩
        go_wp2_with fail
        go_step3
        refine ⟨rfl, _, 0 + 1, _, _, _, _, _, _, _, _, _, _, _, _, _, _, _, _, _, _, _, _, _, _, _, _, _, _, _, _, _, _, _, _, rfl, by omega, by omega, ?_⟩
        exact (p.symm).trans h1
      · go_wp2_with fail
        refine (C (0 + 1) (0 + 1) _ e (by omega) (by omega) _).mono ?_
        rintro r w' ⟨rfl, rfl⟩
        go_wp2_with fail
        go_step3
        refine ⟨rfl, _, 0 + 1, _, _, _, _, _, _, _, _, _, _, _, _, _, _, _, _, _, _, _, _, _, _, _, _, _, _, _, _, _, _, _, _, rfl, by omega, by omega, ?_⟩
        exact (p.symm).trans h1
      · go_wp2_with fail
        refine (C (0 + 1) (0 + 1) _ e (by omega) (by omega) _).mono ?_
        rintro r w' ⟨rfl, rfl⟩
        have hlt : (0 + 1) + 1 < (s.size : Int) := by omega
        go_wp2_with fail
        go_step3
        refine ⟨rfl, _, 0 + 1 + 1, _, _, _, _, _, _, _, _, _, _, _, _, _, _, _, _, _, _, _, _, _, _, _, _, _, _, _, _, _, _, _, _, rfl, by omega, by omega, ?_⟩
        exact (p.symm).trans h1
      · go_wp2_with fail
        refine (C (0 + 1) (0 + 1) _ e (by omega) (by omega) _).mono ?_
        rintro r w' ⟨rfl, rfl⟩
        have hlt : ¬ (0 + 1) + 1 < (s.size : Int) := by omega
        go_wp2_with fail
        simp only [jumps]
        go_ret
        exact ⟨HF.out _ ((p.symm).trans (h1.trans HB.out.symm)), rfl⟩
      · go_wp2_with fail
        refine (C (0 + 1) (0 + 1) _ e (by omega) (by omega) _).mono ?_
        rintro r w' ⟨rfl, rfl⟩
        go_wp2_with fail
        simp only [jumps]
        go_ret
        exact ⟨HF.out _ ((p.symm).trans (h1.trans HB.out.symm)), rfl⟩
      · go_wp2_with fail
        refine (C (0 + 1) (0 + 1) _ e (by omega) (by omega) _).mono ?_
        rintro r w' ⟨rfl, rfl⟩
        go_wp2_with fail
        simp only [jumps]
        go_ret
        exact ⟨HF.out _ ((p.symm).trans (h1.trans HB.out.symm)), rfl⟩
    · go_wp2_with fail
      refine (C 0 (0) _ e (by omega) (by omega) _).mono ?_
      rintro r w' ⟨rfl, rfl⟩
      go_wp2_with fail
      simp only [jumps]
      go_ret
      exact ⟨HF.out _ ((d.symm).trans (h0.trans HB.out.symm)), rfl⟩
    · go_wp2_with fail
      refine (C 0 (0) _ e (by omega) (by omega) _).mono ?_
      rintro r w' ⟨rfl, rfl⟩
      go_wp2_with fail
      simp only [jumps]
      go_ret
      exact ⟨HF.out _ ((d.symm).trans (h0.trans HB.out.symm)), rfl⟩
    · go_wp2_with fail
      refine (C 0 (0) _ e (by omega) (by omega) _).mono ?_
      rintro r w' ⟨rfl, rfl⟩
      go_wp2_with fail
      simp only [jumps]
      go_ret
      exact ⟨HF.out _ ((d.symm).trans (h0.trans HB.out.symm)), rfl⟩
    · go_wp2_with fail
      refine (C 0 (0) _ e (by omega) (by omega) _).mono ?_
      rintro r w' ⟨rfl, rfl⟩
      go_wp2_with fail
      simp only [jumps]
      go_ret
      exact ⟨HF.out _ ((d.symm).trans (h0.trans HB.out.symm)), rfl⟩
    · go_wp2_with fail
      refine (C 0 (0) _ e (by omega) (by omega) _).mono ?_
      rintro r w' ⟨rfl, rfl⟩
      go_wp2_with fail
      simp only [jumps]
      go_ret
      exact ⟨HF.out _ ((d.symm).trans (h0.trans HB.out.symm)), rfl⟩
  · rintro lab a' w' ⟨rfl, i, k, u4, u5, u6, u7, u8, u9, u10, u11, u12, u13, u14, u15, u16, u17, u18, u19, u20, u21, u22, u23, u24, u25, u26, u27, u28, u29, u30, u31, u32, u33, u34, u35, rfl, rfl, hk, hat⟩
    rcases lab with _ | _ | _ | n
    · refine ⟨_, rfl, ?_⟩
      have h1 : M.mDot (s.data.toList.drop k) = M.mDot s.data.toList := hat
      clear hat
      rcases S (k) with ⟨e, hl, d, p, q⟩ | ⟨e, hl, d, p, q⟩ | ⟨e, hl, d, p, q⟩ | ⟨e, hl, d, p, q⟩ | ⟨e, hl, d, p, q⟩ | ⟨e, hl, d, p, q⟩
      · go_wp2_with fail
        refine (C k (k) _ e (by omega) (by omega) _).mono ?_
        rintro r w' ⟨rfl, rfl⟩
        have h1 := d.symm.trans h1
        clear e
        go_wp2_with fail
        go_step3
        rcases S (k + 1) with ⟨e, hl, d, p, q⟩ | ⟨e, hl, d, p, q⟩ | ⟨e, hl, d, p, q⟩ | ⟨e, hl, d, p, q⟩ | ⟨e, hl, d, p, q⟩ | ⟨e, hl, d, p, q⟩ <;> clear S
        · go_wp2_with fail
          refine (C ((k : Int) + 1) (k + 1) _ e (by omega) (by omega) _).mono ?_
          rintro r w' ⟨rfl, rfl⟩
          go_wp2_with fail
          go_step3
          refine ⟨⟨rfl, _, k + 1, _, _, _, _, _, _, _, _, _, _, _, _, _, _, _, _, _, _, _, _, _, _, _, _, _, _, _, _, _, _, _, _, rfl, by omega, by omega, ?_⟩, ?_⟩
          · exact (p.symm).trans h1
          · simp [placeOf, intOf]; omega
        · go_wp2_with fail
          refine (C ((k : Int) + 1) (k + 1) _ e (by omega) (by omega) _).mono ?_
          rintro r w' ⟨rfl, rfl⟩
          go_wp2_with fail
          go_step3
          refine ⟨⟨rfl, _, k + 1, _, _, _, _, _, _, _, _, _, _, _, _, _, _, _, _, _, _, _, _, _, _, _, _, _, _, _, _, _, _, _, _, rfl, by omega, by omega, ?_⟩, ?_⟩
          · exact (p.symm).trans h1
          · simp [placeOf, intOf]; omega
        · go_wp2_with fail
          refine (C ((k : Int) + 1) (k + 1) _ e (by omega) (by omega) _).mono ?_
          rintro r w' ⟨rfl, rfl⟩
          have hlt : ((k : Int) + 1) + 1 < (s.size : Int) := by omega
          go_wp2_with fail
          go_step3
          refine ⟨⟨rfl, _, k + 1 + 1, _, _, _, _, _, _, _, _, _, _, _, _, _, _, _, _, _, _, _, _, _, _, _, _, _, _, _, _, _, _, _, _, rfl, by omega, by omega, ?_⟩, ?_⟩
          · exact (p.symm).trans h1
          · simp [placeOf, intOf]; omega
        · go_wp2_with fail
          refine (C ((k : Int) + 1) (k + 1) _ e (by omega) (by omega) _).mono ?_
          rintro r w' ⟨rfl, rfl⟩
          have hlt : ¬ ((k : Int) + 1) + 1 < (s.size : Int) := by omega
          go_wp2_with fail
          simp only [jumps]
          go_ret
          exact ⟨HF.out _ ((p.symm).trans (h1.trans HB.out.symm)), rfl⟩
        · go_wp2_with fail
          refine (C ((k : Int) + 1) (k + 1) _ e (by omega) (by omega) _).mono ?_
          rintro r w' ⟨rfl, rfl⟩
          go_wp2_with fail
          simp only [jumps]
          go_ret
          exact ⟨HF.out _ ((p.symm).trans (h1.trans HB.out.symm)), rfl⟩
        · go_wp2_with fail
          refine (C ((k : Int) + 1) (k + 1) _ e (by omega) (by omega) _).mono ?_
          rintro r w' ⟨rfl, rfl⟩
          go_wp2_with fail
          simp only [jumps]
          go_ret
          exact ⟨HF.out _ ((p.symm).trans (h1.trans HB.out.symm)), rfl⟩
      · go_wp2_with fail
        refine (C k (k) _ e (by omega) (by omega) _).mono ?_
        rintro r w' ⟨rfl, rfl⟩
        go_wp2_with fail
        simp only [jumps]
        go_ret
        exact ⟨HF.out _ ((d.symm).trans (h1.trans HB.out.symm)), rfl⟩
      · go_wp2_with fail
        refine (C k (k) _ e (by omega) (by omega) _).mono ?_
        rintro r w' ⟨rfl, rfl⟩
        go_wp2_with fail
        simp only [jumps]
        go_ret
        exact ⟨HF.out _ ((d.symm).trans (h1.trans HB.out.symm)), rfl⟩
      · go_wp2_with fail
        refine (C k (k) _ e (by omega) (by omega) _).mono ?_
        rintro r w' ⟨rfl, rfl⟩
        go_wp2_with fail
        simp only [jumps]
        go_ret
        exact ⟨HF.out _ ((d.symm).trans (h1.trans HB.out.symm)), rfl⟩
      · go_wp2_with fail
        refine (C k (k) _ e (by omega) (by omega) _).mono ?_
        rintro r w' ⟨rfl, rfl⟩
        go_wp2_with fail
        simp only [jumps]
        go_ret
        exact ⟨HF.out _ ((d.symm).trans (h1.trans HB.out.symm)), rfl⟩
      · go_wp2_with fail
        refine (C k (k) _ e (by omega) (by omega) _).mono ?_
        rintro r w' ⟨rfl, rfl⟩
        go_wp2_with fail
        simp only [jumps]
        go_ret
        exact ⟨HF.out _ ((d.symm).trans (h1.trans HB.out.symm)), rfl⟩
    · refine ⟨_, rfl, ?_⟩
      have h1 : M.mPlain (s.data.toList.drop (k + 1)) = M.mDot s.data.toList := hat
      clear hat
      rcases S (k + 1) with ⟨e, hl, d, p, q⟩ | ⟨e, hl, d, p, q⟩ | ⟨e, hl, d, p, q⟩ | ⟨e, hl, d, p, q⟩ | ⟨e, hl, d, p, q⟩ | ⟨e, hl, d, p, q⟩ <;> clear S
      · go_wp2_with fail
        refine (C ((k : Int) + 1) (k + 1) _ e (by omega) (by omega) _).mono ?_
        rintro r w' ⟨rfl, rfl⟩
        go_wp2_with fail
        go_step3
        refine ⟨⟨rfl, _, k + 1, _, _, _, _, _, _, _, _, _, _, _, _, _, _, _, _, _, _, _, _, _, _, _, _, _, _, _, _, _, _, _, _, rfl, by omega, by omega, ?_⟩, ?_⟩
        · exact (p.symm).trans h1
        · simp [placeOf, intOf]; omega
      · go_wp2_with fail
        refine (C ((k : Int) + 1) (k + 1) _ e (by omega) (by omega) _).mono ?_
        rintro r w' ⟨rfl, rfl⟩
        go_wp2_with fail
        go_step3
        refine ⟨⟨rfl, _, k + 1, _, _, _, _, _, _, _, _, _, _, _, _, _, _, _, _, _, _, _, _, _, _, _, _, _, _, _, _, _, _, _, _, rfl, by omega, by omega, ?_⟩, ?_⟩
        · exact (p.symm).trans h1
        · simp [placeOf, intOf]; omega
      · go_wp2_with fail
        refine (C ((k : Int) + 1) (k + 1) _ e (by omega) (by omega) _).mono ?_
        rintro r w' ⟨rfl, rfl⟩
        have hlt : ((k : Int) + 1) + 1 < (s.size : Int) := by omega
        go_wp2_with fail
        go_step3
        refine ⟨⟨rfl, _, k + 1 + 1, _, _, _, _, _, _, _, _, _, _, _, _, _, _, _, _, _, _, _, _, _, _, _, _, _, _, _, _, _, _, _, _, rfl, by omega, by omega, ?_⟩, ?_⟩
        · exact (p.symm).trans h1
        · simp [placeOf, intOf]; omega
      · go_wp2_with fail
        refine (C ((k : Int) + 1) (k + 1) _ e (by omega) (by omega) _).mono ?_
        rintro r w' ⟨rfl, rfl⟩
        have hlt : ¬ ((k : Int) + 1) + 1 < (s.size : Int) := by omega
        go_wp2_with fail
        simp only [jumps]
        go_ret
        exact ⟨HF.out _ ((p.symm).trans (h1.trans HB.out.symm)), rfl⟩
      · go_wp2_with fail
        refine (C ((k : Int) + 1) (k + 1) _ e (by omega) (by omega) _).mono ?_
        rintro r w' ⟨rfl, rfl⟩
        go_wp2_with fail
        simp only [jumps]
        go_ret
        exact ⟨HF.out _ ((p.symm).trans (h1.trans HB.out.symm)), rfl⟩
      · go_wp2_with fail
        refine (C ((k : Int) + 1) (k + 1) _ e (by omega) (by omega) _).mono ?_
        rintro r w' ⟨rfl, rfl⟩
        go_wp2_with fail
        simp only [jumps]
        go_ret
        exact ⟨HF.out _ ((p.symm).trans (h1.trans HB.out.symm)), rfl⟩
    · refine ⟨_, rfl, ?_⟩
      have h1 : M.mDash (s.data.toList.drop (k + 1)) = M.mDot s.data.toList := hat
      clear hat
      rcases S (k + 1) with ⟨e, hl, d, p, q⟩ | ⟨e, hl, d, p, q⟩ | ⟨e, hl, d, p, q⟩ | ⟨e, hl, d, p, q⟩ | ⟨e, hl, d, p, q⟩ | ⟨e, hl, d, p, q⟩ <;> clear S
      · go_wp2_with fail
        refine (C ((k : Int) + 1) (k + 1) _ e (by omega) (by omega) _).mono ?_
        rintro r w' ⟨rfl, rfl⟩
        go_wp2_with fail
        go_step3
        refine ⟨⟨rfl, _, k + 1, _, _, _, _, _, _, _, _, _, _, _, _, _, _, _, _, _, _, _, _, _, _, _, _, _, _, _, _, _, _, _, _, rfl, by omega, by omega, ?_⟩, ?_⟩
        · exact (q.symm).trans h1
        · simp [placeOf, intOf]; omega
      · go_wp2_with fail
        refine (C ((k : Int) + 1) (k + 1) _ e (by omega) (by omega) _).mono ?_
        rintro r w' ⟨rfl, rfl⟩
        go_wp2_with fail
        go_step3
        refine ⟨⟨rfl, _, k + 1, _, _, _, _, _, _, _, _, _, _, _, _, _, _, _, _, _, _, _, _, _, _, _, _, _, _, _, _, _, _, _, _, rfl, by omega, by omega, ?_⟩, ?_⟩
        · exact (q.symm).trans h1
        · simp [placeOf, intOf]; omega
      · go_wp2_with fail
        refine (C ((k : Int) + 1) (k + 1) _ e (by omega) (by omega) _).mono ?_
        rintro r w' ⟨rfl, rfl⟩
        go_wp2_with fail
        simp only [jumps]
        go_ret
        exact ⟨HF.out _ ((q.symm).trans (h1.trans HB.out.symm)), rfl⟩
      · go_wp2_with fail
        refine (C ((k : Int) + 1) (k + 1) _ e (by omega) (by omega) _).mono ?_
        rintro r w' ⟨rfl, rfl⟩
        go_wp2_with fail
        simp only [jumps]
        go_ret
        exact ⟨HF.out _ ((q.symm).trans (h1.trans HB.out.symm)), rfl⟩
      · go_wp2_with fail
        refine (C ((k : Int) + 1) (k + 1) _ e (by omega) (by omega) _).mono ?_
        rintro r w' ⟨rfl, rfl⟩
        go_wp2_with fail
        simp only [jumps]
        go_ret
        exact ⟨HF.out _ ((q.symm).trans (h1.trans HB.out.symm)), rfl⟩
      · go_wp2_with fail
        refine (C ((k : Int) + 1) (k + 1) _ e (by omega) (by omega) _).mono ?_
        rintro r w' ⟨rfl, rfl⟩
        go_wp2_with fail
        simp only [jumps]
        go_ret
        exact ⟨HF.out _ ((q.symm).trans (h1.trans HB.out.symm)), rfl⟩
    · exact hat.elim
end Go.Proofs.YtcnpocppgghejaaGreatDoor
namespace Go.Proofs.YtcnpocppgghejaaGreatDoor
open Go.RowKit

/-- A slice of whole numbers that the call made. -/
def OwnK (k : IntKind) (w : World) (B : Nat) (v : Value) (zs : List Int) : Prop := Own w B 1 v zs.length (zs.map (Value.int k))
/-- A slice that has been appended to. -/
def Grew (k : IntKind) (B : Nat) (v : Value) (zs : List Int) (w : World) (r : Ending) (w' : World) : Prop := ∃ v', r = .returned v' ∧ OwnK k w' B v' zs ∧ w.grownBy w' v.ownBlock
theorem Own.grown {W w w' : World} {B size : Nat} {v : Value} {n : Nat} {xs : List Value} (h : Own w B size v n xs) (hb : Below B W w) (hB : B ≤ w.heap.size) (hg : w.grownBy w' v.ownBlock) : Below B W w' :=
  hb.grown hg hB fun k hk => (h.lt k hk).1

theorem u8_info : (Tryz.prog.info? 5).map (fun i => (i.zero, i.size, i.bytes)) = some (some (.int .u8 0), 1, 1) := by kernel_rfl

theorem i64_info : (Tryz.prog.info? 2).map (fun i => (i.zero, i.size, i.bytes)) = some (some (.int .i64 0), 1, 8) := by kernel_rfl

/-- What is appended lies in the block that was just made. -/
theorem src_new {P : Program} (w : World) (vs : List Value) (m c : Nat) (t tx e' : TypeId) (hk : P.underlying tx = some (.slice e')) (hm : vs.length = m) (h1 : ∀ u ∈ vs, u.oneCell' = true) :
    Go.Src P 1 tx (.slice (some ⟨w.heap.size, 0, none⟩) m c) m vs (w.alloc (.cells vs.toArray t)) := by
  refine Src.ofSlice _ hk _ _ _ _ (by omega) (fun j u hu => ?_) h1
  have e1 : (w.alloc (.cells vs.toArray t)).heap[w.heap.size]? = some (.cells vs.toArray t) := (MapKept.heap_alloc w _).1
  rw [Addr.add_lit, Nat.zero_add]
  unfold World.cell?
  rw [e1]
  simpa using hu
theorem grown_alloc {w w' : World} {o : Obj} {row : Option Nat} (h : (w.alloc o).grownBy w' row) : w.grownBy w' row :=
  ⟨h.os, h.tape, h.output, Nat.le_trans (by simp) h.size, fun k hk hne => (h.block k (by simp; omega) hne).trans (Below.heap_alloc w o k hk)⟩
theorem grown_trans {w w1 w2 : World} {r1 r2 row : Option Nat} (h : w.grownBy w1 r1) (k : w1.grownBy w2 r2) (h1 : ∀ g, r1 = some g → w.heap.size ≤ g ∨ row = some g) (h2 : ∀ g, r2 = some g → w.heap.size ≤ g ∨ row = some g) : w.grownBy w2 row :=
  ⟨k.os.trans h.os, k.tape.trans h.tape, k.output.trans h.output, Nat.le_trans h.size k.size, fun i hi hne =>
    (k.block i (Nat.lt_of_lt_of_le hi h.size) (fun e => by rcases h2 i e.symm with h | h; · omega
                                                           · exact hne h.symm)).trans
      (h.block i hi (fun e => by rcases h1 i e.symm with h | h; · omega
                                 · exact hne h.symm))⟩

theorem appendTwo_any (v : Value) (n : Int) (B : Nat) (zs : List Int) (w : World) (ho : OwnK .u8 w B v zs) (hB : B ≤ w.heap.size) (hn : M.sumB n = true) (hl : zs.length ≤ 1000000) :
    Calls Tryz.prog 48 #[v, .int .i64 n] w (Grew .u8 B v (zs ++ M.two n) w) := by
  obtain ⟨i0, hi0, hz0, hz1, hz2⟩ := info_parts u8_info
  have hn' := hn
  simp only [M.sumB, decide_eq_true_eq] at hn'
  obtain ⟨n0, n1⟩ := hn'
  clear hn
  go_enter Tryz.func48, Tryz.ntmps48
  go_wp2_with (at_builtin; refine wpList_append_src _ rfl (.tmp 5) (.tmp 11) 22 22 rfl B 5 i0 (.int .u8 0) 1 1 Tryz.underlying22 hi0 hz0 hz1 hz2 rfl v zs.length (zs.map (Value.int .u8)) rfl (ho.alloc _) _ 2 [.int .u8 (n / 256), .int .u8 (n % 256)] rfl (src_new w _ 2 2 _ _ _ Tryz.underlying22 rfl (ints_oneCell .u8 [n / 256, n % 256])) (by simp only [maxLen]; omega) (by omega) (by simp; omega) ?_; intro v' w' hown hgrow hat)
  go_ret
  exact ⟨v', rfl, by unfold OwnK; simpa [M.two] using hown, grown_alloc hgrow⟩

def Two (n : Int) (w : World) (r : Ending) (w' : World) : Prop := r = .returned (.slice (some ⟨w.heap.size, 0, none⟩) 2 2) ∧ w' = w.alloc (.cells #[.int .u8 (n / 256), .int .u8 (n % 256)] 5)
theorem l1Two_any (n : Int) (w : World) (hn : M.sumB n = true) : Calls Tryz.prog 65 #[.int .i64 n] w (Two n w) := by
  have hn' := hn
  simp only [M.sumB, decide_eq_true_eq] at hn'
  obtain ⟨n0, n1⟩ := hn'
  clear hn
  go_enter Tryz.func65, Tryz.ntmps65
  go_wp2_with fail
  go_ret
  exact ⟨rfl, rfl⟩

/-- What is appended lies in a block that is known whole. -/
theorem src_at {P : Program} {w : World} (g : Nat) (vs : List Value) (m c : Nat) (t tx e' : TypeId) (hk : P.underlying tx = some (.slice e')) (hm : vs.length = m) (h1 : ∀ u ∈ vs, u.oneCell' = true)
    (hg : w.heap[g]? = some (.cells vs.toArray t)) : Go.Src P 1 tx (.slice (some ⟨g, 0, none⟩) m c) m vs w := by
  refine Src.ofSlice _ hk _ _ _ _ (by omega) (fun j u hu => ?_) h1
  rw [Addr.add_lit, Nat.zero_add]
  unfold World.cell?
  rw [hg]
  simpa using hu
abbrev textObj (w : World) (s : ByteArray) (e : TypeId) : Obj := .cells (bytesRow s (grownCap w s.size 0 e)) e ((bytesRow s (grownCap w s.size 0 e)).size, (bytesRow s (grownCap w s.size 0 e)).size + 1)
theorem own_text (w : World) (s : ByteArray) (e : TypeId) (hs : s.size ≤ maxLen) :
    Own (w.alloc (textObj w s e)) w.heap.size 1 (.slice (some ⟨w.heap.size, 0, none⟩) s.size (grownCap w s.size 0 e)) s.size ((M.textL s).map (Value.int .u8)) := by
  have hge := grownCap_ge w s.size 0 e
  refine Own.bytes w _ e _ _ (Nat.le_refl _) hge (grownCap_le_maxLen w s.size 0 e hs) ?_ (by simp [M.textL]) ?_ _
  · simp only [bytesRow, Array.size_append, Array.size_map, Array.size_replicate]
    show s.size + _ = _
    omega
  · simp only [bytesRow, Array.toList_append, M.textL, Array.toList_map]
    rw [List.take_append_of_le_length (by simp)]
    rw [List.take_of_length_le (by simp)]
    simp [List.map_map, Function.comp_def]
theorem tag_start {W : World} (w : World) (s : ByteArray) (e : TypeId) (o : Obj) (hs : s.size ≤ maxLen) (hW : W = ((w.alloc (textObj w s e)).alloc o).drew) :
    Own W w.heap.size 1 (.slice (some ⟨w.heap.size, 0, none⟩) s.size (grownCap w s.size 0 e)) s.size ((M.textL s).map (Value.int .u8)) := by
  subst hW; exact ((own_text w s e hs).alloc o).drew
theorem tag_src {P : Program} (w : World) (o : Obj) (tx e' t : TypeId) (hk : P.underlying tx = some (.slice e')) :
    Go.Src P 1 tx (.slice (some ⟨w.heap.size + 1, 0, none⟩) 1 1) 1 [.int .u8 0] ((w.alloc o).alloc (.cells #[.int .u8 0] t)).drew := by
  refine src_at (w.heap.size + 1) [.int .u8 0] 1 1 t tx e' hk rfl (ints_oneCell .u8 [0]) ?_
  have := (MapKept.heap_alloc (w.alloc o) (.cells #[.int .u8 0] t)).1
  rw [show (w.alloc o).heap.size = w.heap.size + 1 by simp] at this
  exact this
theorem tag_first {w w1 : World} {s : ByteArray} {e : TypeId} {o : Obj} {v : Value} (hs : s.size ≤ maxLen)
    (hown : Own w1 w.heap.size 1 v (s.size + 1) ((M.textL s).map (Value.int .u8) ++ [.int .u8 0])) (hg : ((w.alloc (textObj w s e)).alloc o).drew.grownBy w1 (Value.ownBlock (.slice (some ⟨w.heap.size, 0, none⟩) s.size (grownCap w s.size 0 e)))) :
    OwnK .u8 w1 w.heap.size v (M.tagBytes s []) ∧ Below w.heap.size w w1 := by
  refine ⟨?_, (tag_start w s e o hs rfl).grown ?_ (by simp; omega) hg⟩
  · unfold OwnK
    rw [M.tagBytes_nil]
    simpa [M.textL_length] using hown
  · exact (bal (bal (Below.refl _ w) _) _).drew

def TagRel (w : World) (s : ByteArray) (zs : List Int) (k : Nat) (v : Value) (wr : World) : Prop := OwnK .u8 wr w.heap.size v (M.tagBytes s (zs.take k)) ∧ Below w.heap.size w wr
theorem TagRel.step {w w1 w2 : World} {s : ByteArray} {zs : List Int} {k : Nat} {v v' : Value} (h : TagRel w s zs k v w1) (hk : k < zs.length) (ho : OwnK .u8 w2 w.heap.size v' (M.tagBytes s (zs.take k) ++ M.two (zs[k]?.getD 0))) (hg : w1.grownBy w2 v.ownBlock) : TagRel w s zs (k + 1) v' w2 :=
  ⟨by rw [← M.tagBytes_take s zs k hk]; exact ho, h.1.grown h.2 h.2.size hg⟩
theorem byte_wf {b : Int} (h : M.byteB b) : (Lit.int .u8 b).wf = true := by
  unfold M.byteB at h
  simp [Lit.wf, IntKind.min, IntKind.max, IntKind.signed, IntKind.bits]; omega
theorem TagRel.row {w w1 : World} {s : ByteArray} {zs : List Int} {v : Value} (h : TagRel w s zs zs.length v w1) (hz : zs.all M.sumB = true) :
    ∃ a n c, v = .slice a n c ∧ Row .u8 w1 w1.heap.size a n c (M.tagBytes s zs) := by
  obtain ⟨ho, _⟩ := h
  rw [List.take_length] at ho
  obtain ⟨a, c, rfl, _⟩ := ho.form
  exact ⟨a, _, c, rfl, Own.row ho fun b hb => byte_wf (M.tagBytes_byte s zs (fun z hz' => List.all_eq_true.1 hz z hz') b hb)⟩

end Go.Proofs.YtcnpocppgghejaaGreatDoor
namespace Go.Proofs.YtcnpocppgghejaaGreatDoor
open Go.RowKit

theorem l1Pow_any (a : Int) (e : Nat) (m : Int) (w : World) (h1 : 1 ≤ m) (h2 : m ≤ 1000000) (ha0 : 0 ≤ a) (ha1 : a < m) (he : e ≤ 1000000000) :
    Calls Tryz.prog 101 #[.int .i64 a, .int .i64 e, .int .i64 m] w fun r w' => r = .returned (.int .i64 (M.pw a e m)) ∧ w = w' := by
  obtain ⟨o0, o1⟩ := M.mod_bd 1 h1
  go_enter Tryz.func101, Tryz.ntmps101
  go_wp2_with fail
  go_loop [0, 1, 7] (fun x y z => ∃ (b n : Int) (k : Nat), x = .int .i64 b ∧ y = .int .i64 k ∧ z = .int .i64 n ∧ 0 ≤ b ∧ b < m ∧ 0 ≤ n ∧ n < m ∧ k ≤ 1000000000 ∧ M.Keep a e m n b k) (fun _ y _ => (intOf y).toNat)
  case atStart => exact ⟨a, 1 % m, e, rfl, rfl, rfl, ha0, ha1, o0, o1, he, M.keep_start a e m⟩
  case round =>
    obtain ⟨b, n, k, rfl, rfl, rfl, b0, b1, n0, n1, hk, hkeep⟩ := hrel
    obtain ⟨p0, p1⟩ := M.mul_bd b0 b1 b0 b1 h2
    obtain ⟨q0, q1⟩ := M.mul_bd n0 n1 b0 b1 h2
    obtain ⟨r0, r1⟩ := M.mod_bd (b * b) h1
    obtain ⟨s0, s1⟩ := M.mod_bd (n * b) h1
    by_cases hz : 0 < k
    · by_cases ho : k % 2 = 1
      · have H1 := Lib.hid (M.keep_odd hkeep ho)
        have ht : ((k : Int) % 2 == 1) = true := by rw [beq_iff_eq]; omega
        clear ho hkeep
        go_wp2_with fail
        go_round
        case rel => exact ⟨b * b % m, n * b % m, k / 2, rfl, by go_num, rfl, r0, r1, s0, s1, by omega, H1.out⟩
        case measure => simp [intOf]; omega
      · have H1 := Lib.hid (M.keep_even hkeep (by omega))
        have ht : ((k : Int) % 2 == 1) = false := by rw [beq_eq_false_iff_ne]; omega
        clear ho hkeep
        go_wp2_with fail
        go_round
        case rel => exact ⟨b * b % m, n, k / 2, rfl, by go_num, rfl, r0, r1, n0, n1, by omega, H1.out⟩
        case measure => simp [intOf]; omega
    · obtain rfl : k = 0 := by omega
      have H1 := Lib.hid (M.keep_end hkeep n0 n1)
      clear hkeep
      go_wp2_with fail
      go_ret
      exact ⟨by rw [← H1.out]; rfl, rfl⟩

theorem l1Pow_int (a e m : Int) (w : World) (h1 : 1 ≤ m) (h2 : m ≤ 1000000) (ha0 : 0 ≤ a) (ha1 : a < m) (he0 : 0 ≤ e) (he1 : e ≤ 1000000000) :
    Calls Tryz.prog 101 #[.int .i64 a, .int .i64 e, .int .i64 m] w fun r w' => r = .returned (.int .i64 (M.pw a e.toNat m)) ∧ w = w' := by
  obtain ⟨n, rfl⟩ := Int.eq_ofNat_of_zero_le he0
  exact l1Pow_any a n m w h1 h2 ha0 ha1 (by omega)

theorem l1Raise_int (a e : Int) (w : World) (ha0 : 0 ≤ a) (ha1 : a < 2879) (he0 : 0 ≤ e) (he1 : e ≤ 1000000000) :
    Calls Tryz.prog 87 #[.int .i64 a, .int .i64 e] w fun r w' => r = .returned (.int .i64 (M.pw a e.toNat 2879)) ∧ w = w' := by
  go_enter Tryz.func87, Tryz.ntmps87
  go_wp2_with fail
  refine (l1Pow_int _ _ _ _ (by omega) (by omega) ha0 ha1 he0 he1).mono ?_
  rintro r w' ⟨rfl, rfl⟩
  go_wp2_with fail
  go_ret
  simp

abbrev I2 (c v : Int) : Value := .agg #[.int .i64 c, .int .i64 v]

def mulR (a b m : Int) : Int × Int := if restB a m && restB b m then (0, a * b % m) else (3, 0)
def powR (a e m : Int) : Int × Int := if restB a m && inB e 0 1000000000 then (0, M.pw a e.toNat m) else (3, 0)

theorem restB_in (a m : Int) (h : inB m 1 1000000 = true) : restB a m = inB a 0 (m - 1) := by
  simp only [inB, decide_eq_true_eq] at h
  unfold restB inB
  rw [decide_eq_decide]; omega
theorem restB_out (a m : Int) (h : inB m 1 1000000 = false) : restB a m = false := by
  simp only [inB, decide_eq_false_iff_not] at h
  simp only [restB, decide_eq_false_iff_not]; omega

end Go.Proofs.YtcnpocppgghejaaGreatDoor
namespace Go.Proofs.YtcnpocppgghejaaGreatDoor
open Go.RowKit

theorem Row.alloc {k : IntKind} {w : World} {B : Nat} {a : Option Addr} {len cap : Nat} {zs : List Int} (h : Row k w B a len cap zs) (hB : B ≤ w.heap.size) (o : Obj) : Row k (w.alloc o) B a len cap zs :=
  h.below ((Below.refl B w).alloc hB o)

theorem Row.on {k : IntKind} {w w' : World} {a : Option Addr} {len cap : Nat} {zs : List Int} (h : Row k w w.heap.size a len cap zs) (hb : Below w.heap.size w w') : Row k w' w'.heap.size a len cap zs := (h.below hb).more hb.size

/-- The first j of n cells of the block that w's next one is are told. -/
structure Fill (k : IntKind) (w : World) (n : Nat) (zs : List Int) (j : Nat) (wr : World) : Prop where
  bel : Below w.heap.size w wr
  lt : w.heap.size < wr.heap.size
  room : ∀ i, i < n → (∃ u, wr.cell? ⟨w.heap.size, i, none⟩ = some u) ∧ wr.frozen? ⟨w.heap.size, i, none⟩ = false
  told : ∀ i, i < j → wr.cell? ⟨w.heap.size, i, none⟩ = some (.int k (zs.getD i 0))
theorem Fill.new (k : IntKind) (w : World) (n : Nat) (zs : List Int) (cur : Array Value) (e : TypeId) (hs : cur.size = n) : Fill k w n zs 0 (w.alloc (.cells cur e)) := by
  have e1 : (w.alloc (.cells cur e)).heap[w.heap.size]? = some (.cells cur e) := (MapKept.heap_alloc w _).1
  refine ⟨bal (Below.refl _ _) _, by simp, fun i hi => ?_, fun i hi => absurd hi (by omega)⟩
  unfold World.cell? World.frozen?
  rw [e1]
  simp [show i < cur.size by omega]
theorem Fill.step {k : IntKind} {w : World} {n : Nat} {zs : List Int} {j : Nat} {wr : World} (h : Fill k w n zs j wr) (hj : j < n) : Fill k w n zs (j + 1) (wr.setCell ⟨w.heap.size, j, none⟩ (.int k (zs[j]?.getD 0))) := by
  refine ⟨h.bel.setCell (Nat.le_refl _) _, by simpa [World.setCell] using h.lt, fun i hi => ?_, fun i hi => ?_⟩
  · obtain ⟨⟨u, hu⟩, hf⟩ := h.room i hi
    refine ⟨?_, by rw [World.frozen?_setCell]; exact hf⟩
    obtain ⟨v, hv⟩ := cell?_setCell_some (w := wr) (p := ⟨w.heap.size, j, none⟩) (x := .int k (zs[j]?.getD 0)) (q := ⟨w.heap.size, i, none⟩) (v := u) hu
    exact ⟨v, hv⟩
  · rcases Nat.lt_or_ge i j with hlt | hge
    · rw [World.cell?_setCell_other _ _ _ _ (fun e => by injection e with _ e2; omega)]
      exact h.told i hlt
    · obtain rfl : i = j := by omega
      obtain ⟨⟨u, hu⟩, _⟩ := h.room i hj
      rw [World.cell?_setCell_same _ _ _ (by rw [hu])]
      simp [List.getD]
theorem Fill.own {k : IntKind} {w : World} {zs : List Int} {wr : World} {n : Nat} (hn : zs.length = n) (h : Fill k w n zs n wr) (hm : n ≤ maxLen) : OwnK k wr w.heap.size (.slice (some ⟨w.heap.size, 0, none⟩) n n) zs := by
  subst hn
  refine ⟨by simp, .inr ⟨w.heap.size, _, rfl, Nat.le_refl _, h.lt, Nat.le_refl _, hm, fun j u hu => ?_, fun j hj => ?_⟩⟩
  · have hj := (List.getElem?_eq_some_iff.1 hu).1
    simp at hj
    rw [h.told j hj]
    rw [← hu]
    simp [List.getD, hj]
  · obtain ⟨⟨u, hu⟩, hf⟩ := h.room j (by omega)
    exact ⟨by rw [hu]; rfl, hf⟩

/-- A slice of numbers was copied. -/
def Copied (k : IntKind) (n : Nat) (zs : List Int) (w : World) (r : Ending) (w' : World) : Prop :=
  r = .returned (.slice (some ⟨w.heap.size, 0, none⟩) n n) ∧ OwnK k w' w.heap.size (.slice (some ⟨w.heap.size, 0, none⟩) n n) zs ∧ Below w.heap.size w w'

end Go.Proofs.YtcnpocppgghejaaGreatDoor
namespace Go.Proofs.YtcnpocppgghejaaGreatDoor
open Go.RowKit
set_option maxRecDepth 100000
set_option linter.unusedVariables false

theorem l5Sign_any (b : UInt8) (w : World) :
    Calls Tryz.prog 86 #[.int .u8 (b.toNat : Int)] w fun e w' => e = .returned (.bool (M.signB b)) ∧ w = w' := by
  have HS := Lib.hid (M.signB_eq b)
  go_enter Tryz.func86, Tryz.ntmps86
  go_wp2_with fail
  all_goals
    go_ret
    refine ⟨ret_bool ?_, rfl⟩
    rw [HS.out]
    (try simp only [beq_iff_eq, beq_eq_false_iff_ne, ne_eq] at *)
    first | (symm; rw [decide_eq_true_iff]; omega) | (symm; rw [decide_eq_false_iff_not]; omega) | (rw [Bool.eq_iff_iff]; simp only [beq_iff_eq, decide_eq_true_eq, Bool.or_eq_true]; omega)

theorem implNameFault_any (s : ByteArray) (w : World) (hs : s.size ≤ maxLen) :
    Calls Tryz.prog 32 #[.string s] w fun e w' => e = .returned (.int .i64 (M.nameF s.data.toList)) ∧ w = w' := by
  have hL : s.data.toList.length = s.size := by simp
  unfold maxLen at hs
  by_cases h : 20 < s.size
  · have HE := Lib.hid (M.nameF_long (l := s.data.toList) (by omega))
    have h' : (20 : Int) < s.size := by omega
    go_enter Tryz.func32, Tryz.ntmps32
    go_wp2_with fail
    go_ret
    exact ⟨ret_int HE.out.symm, rfl⟩
  have h' : ¬ (20 : Int) < s.size := by omega
  have F := fun w => hasParts_any s w (by omega)
  cases hm : M.mDot s.data.toList
  · have HE := Lib.hid (M.nameF_no (l := s.data.toList) (by omega) hm)
    simp only [hm] at F
    clear hm
    go_enter Tryz.func32, Tryz.ntmps32
    go_wp2_with fail
    refine (F _).mono ?_
    rintro r w' ⟨rfl, rfl⟩
    go_wp2_with fail
    go_ret
    exact ⟨ret_int HE.out.symm, rfl⟩
  · have HE := Lib.hid (M.nameF_yes (l := s.data.toList) (by omega) hm)
    simp only [hm] at F
    clear hm
    go_enter Tryz.func32, Tryz.ntmps32
    go_wp2_with fail
    refine (F _).mono ?_
    rintro r w' ⟨rfl, rfl⟩
    go_wp2_with fail
    go_ret
    exact ⟨ret_int HE.out.symm, rfl⟩

theorem l5Part_any (s : ByteArray) (w : World) (hs : s.size ≤ maxLen) :
    Calls Tryz.prog 68 #[.string s] w fun e w' => e = .returned (.bool (M.partB s.data.toList)) ∧ w = w' := by
  unfold maxLen at hs
  go_enter Tryz.func68, Tryz.ntmps68
  go_wp2_with fail
  go_loop [3] (fun i => ∃ k : Nat, k ≤ s.size ∧ i = .int .i64 k ∧ Hid (M.signTo s k = true)) (fun i => s.size - (intOf i).toNat)
  case atStart => exact ⟨0, Nat.zero_le _, rfl, Lib.hid (M.signTo_zero s)⟩
  case round =>
    obtain ⟨k, hk, rfl, hlow⟩ := hrel
    by_cases hlt : k < s.size
    · have F := fun w => l5Sign_any s[k] w
      cases hb : M.signB s[k]
      · have HS := Lib.hid (M.partB_stop s k hlt hb)
        simp only [hb] at F
        clear hb
        go_wp2_with fail
        refine (F _).mono ?_
        rintro r w' ⟨rfl, rfl⟩
        go_wp2_with fail
        go_ret
        exact ⟨ret_bool HS.out.symm, rfl⟩
      · have HN := Lib.hid (M.signTo_next s k hlt hlow.out hb)
        simp only [hb] at F
        clear hb
        go_wp2_with fail
        refine (F _).mono ?_
        rintro r w' ⟨rfl, rfl⟩
        go_wp2_with fail
        go_round
        case rel => exact ⟨k + 1, by omega, by go_num, HN⟩
        case measure => simp [intOf]; omega
    · obtain rfl : k = s.size := by omega
      by_cases h1 : s.size < 1
      · have HS := Lib.hid (M.partB_short s h1)
        have h1' : ¬ 1 ≤ (s.size : Int) := by omega
        go_wp2_with fail
        go_ret
        exact ⟨ret_bool HS.out.symm, rfl⟩
      · obtain ⟨n, hn⟩ : ∃ n, s.size = n + 1 := ⟨s.size - 1, by omega⟩
        have HS := Lib.hid (M.partB_ends s n hn hlow.out)
        have h1' : 1 ≤ (s.size : Int) := by omega
        go_wp2_with fail
        all_goals
          go_ret
          refine ⟨ret_bool ?_, rfl⟩
          rw [HS.out]
          unfold M.dashB
          rcases Classical.em ((s[0].toNat : Int) = 45) with q0 | q0 <;> rcases Classical.em ((s[n].toNat : Int) = 45) with q1 | q1 <;> simp [q0, q1] at * <;> simp [bne, q0, q1]

theorem l5Bare_any (s : ByteArray) (w : World) (hs : s.size ≤ maxLen) :
    Calls Tryz.prog 67 #[.string s] w fun e w' => e = .returned (.string (M.bs (M.bare s.data.toList))) ∧ w = w' := by
  unfold maxLen at hs
  by_cases h1 : s.size ≤ 1
  · have h1' : ¬ 1 < (s.size : Int) := by omega
    rw [M.bare_one s h1]
    go_enter Tryz.func67, Tryz.ntmps67
    go_wp2_with fail
    go_ret
    simp
  obtain ⟨n, hn⟩ : ∃ n, s.size = n + 2 := ⟨s.size - 2, by omega⟩
  cases hd : M.dotB (s[n + 1]'(by omega))
  · rw [M.bare_not s n hn hd]
    have hd' : ((s[n + 1]'(by omega)).toNat : Int) ≠ 46 := by simpa [M.dotB] using hd
    go_enter Tryz.func67, Tryz.ntmps67
    go_wp2_with fail
    go_ret
    exact ⟨rfl, rfl⟩
  · rw [M.bare_dot s n hn hd]
    have hd' : ((s[n + 1]'(by omega)).toNat : Int) = 46 := by simpa [M.dotB] using hd
    go_enter Tryz.func67, Tryz.ntmps67
    go_wp2_with fail
    go_ret
    exact ⟨rfl, rfl⟩
end Go.Proofs.YtcnpocppgghejaaGreatDoor
namespace Go.Proofs.YtcnpocppgghejaaGreatDoor
open Go.RowKit

/-- A block of numbers that is known whole, read as a slice. -/
theorem row_at {k : IntKind} {w : World} (g n : Nat) (zs : List Int) (t : TypeId) (hg : w.heap[g]? = some (.cells (zs.map (Value.int k)).toArray t)) (hn : zs.length = n) (hm : n ≤ maxLen) (hw : ∀ z ∈ zs, (Lit.int k z).wf = true) :
    Row k w (g + 1) (some ⟨g, 0, none⟩) n n zs :=
  ⟨hn, hw, Nat.le_refl _, hm, fun _ => ⟨g, 0, rfl, by omega, fun j hj => by
    rw [Nat.zero_add]
    unfold World.cell?
    rw [hg]
    simp [List.getD, show j < zs.length by omega]⟩⟩
theorem sum_wf {z : Int} (h : M.sumB z = true) : (Lit.int .i64 z).wf = true := by
  simp only [M.sumB, decide_eq_true_eq] at h
  simp [Lit.wf, IntKind.min, IntKind.max, IntKind.signed, IntKind.bits]; omega
theorem row_one {w : World} (o : Obj) (z : Int) (t : TypeId) (h : M.sumB z = true) : Row .i64 ((w.alloc o).alloc (.cells #[.int .i64 z] t)) (w.heap.size + 1 + 1) (some ⟨w.heap.size + 1, 0, none⟩) 1 1 [z] := by
  refine row_at (w.heap.size + 1) 1 [z] t ?_ rfl (by simp only [maxLen]; omega) (fun x hx => by simp at hx; subst hx; exact sum_wf h)
  have := (MapKept.heap_alloc (w.alloc o) (.cells #[.int .i64 z] t)).1
  rw [show (w.alloc o).heap.size = w.heap.size + 1 by simp] at this
  exact this

theorem row_one0 {w : World} (z : Int) (t : TypeId) (h : M.sumB z = true) : Row .i64 (w.alloc (.cells #[.int .i64 z] t)) (w.heap.size + 1) (some ⟨w.heap.size, 0, none⟩) 1 1 [z] :=
  row_at w.heap.size 1 [z] t (MapKept.heap_alloc w _).1 rfl (by simp only [maxLen]; omega) (fun x hx => by simp at hx; subst hx; exact sum_wf h)
theorem keyD_ok {k : Int} {s : ByteArray} (h : ((M.keyD k s).1 == 0) = true) : M.sumB k = true := by
  cases hk : M.sumB k
  · simp [M.keyD, hk] at h
  · rfl
def sameS (a b : Int) : Bool := M.sumB a && (a == b)
end Go.Proofs.YtcnpocppgghejaaGreatDoor
namespace Go.Proofs.YtcnpocppgghejaaGreatDoor
open Go.RowKit
set_option maxRecDepth 100000

/-- A code and bytes in new memory. -/
def BytesRes (c : Int) (zs : List Int) (w : World) (r : Ending) (w' : World) : Prop :=
  ∃ a len cap, r = .returned (.agg #[.int .i64 c, .slice a len cap]) ∧ OwnK .u8 w' w.heap.size (.slice a len cap) zs ∧ Below w.heap.size w w'

theorem row_three {w : World} (x y z : Int) (t : TypeId) (hx : M.sumB x = true) (hy : M.sumB y = true) (hz : M.sumB z = true) : Row .i64 (w.alloc (.cells #[.int .i64 x, .int .i64 y, .int .i64 z] t)) (w.heap.size + 1) (some ⟨w.heap.size, 0, none⟩) 3 3 [x, y, z] :=
  row_at w.heap.size 3 [x, y, z] t (MapKept.heap_alloc w _).1 rfl (by simp only [maxLen]; omega) (fun u hu => by
    simp at hu
    rcases hu with rfl | rfl | rfl
    · exact sum_wf hx
    · exact sum_wf hy
    · exact sum_wf hz)

def StreamRel (W : World) (key seq : Int) (k : Nat) (v : Value) (wr : World) : Prop := OwnK .u8 wr W.heap.size v (M.streamL key seq k) ∧ Below W.heap.size W wr
theorem StreamRel.step {W wr w1 w2 : World} {key seq : Int} {k : Nat} {v v' : Value} {o o' : Obj} (h : StreamRel W key seq k v wr) (hb : Below (wr.alloc o).heap.size (wr.alloc o) w1)
    (ho : Own w2 W.heap.size 1 v' ((M.streamL key seq k).length + 1) ((M.streamL key seq k).map (Value.int .u8) ++ [.int .u8 (M.streamB key seq k)])) (hg : (w1.alloc o').grownBy w2 v.ownBlock) : StreamRel W key seq (k + 1) v' w2 := by
  refine ⟨?_, ?_⟩
  · unfold OwnK
    rw [M.streamL_succ]
    simpa using ho
  · have h1 : Below W.heap.size W (w1.alloc o') := bal (btr (bal h.2 o) hb) o'
    have h2 : Own (w1.alloc o') W.heap.size 1 v _ _ := ((h.1.alloc o).below hb).alloc o'
    exact h2.grown h1 h1.size hg

theorem StreamRel.step1 {W wr w1 w2 : World} {key seq : Int} {k : Nat} {v v' : Value} {o' : Obj} (h : StreamRel W key seq k v wr) (hb : Below wr.heap.size wr w1)
    (ho : Own w2 W.heap.size 1 v' ((M.streamL key seq k).length + 1) ((M.streamL key seq k).map (Value.int .u8) ++ [.int .u8 (M.streamB key seq k)])) (hg : (w1.alloc o').grownBy w2 v.ownBlock) : StreamRel W key seq (k + 1) v' w2 := by
  refine ⟨?_, ?_⟩
  · unfold OwnK
    rw [M.streamL_succ]
    simpa using ho
  · have h1 : Below W.heap.size W (w1.alloc o') := bal (btr h.2 hb) o'
    have h2 : Own (w1.alloc o') W.heap.size 1 v _ _ := (h.1.below hb).alloc o'
    exact h2.grown h1 h1.size hg

def StreamOwn (key seq : Int) (n : Nat) (w : World) (r : Ending) (w' : World) : Prop := ∃ a len cap, r = .returned (.slice a len cap) ∧ OwnK .u8 w' w.heap.size (.slice a len cap) (M.streamL key seq n) ∧ Below w.heap.size w w'
theorem own_empty (w : World) (e : TypeId) : Own (w.alloc (.cells #[] e)) w.heap.size 1 (.slice (some ⟨w.heap.size, 0, none⟩) 0 0) 0 [] :=
  Own.made w #[] e 0 (Nat.le_refl _) (Nat.zero_le _) rfl

theorem strB_yes {key seq n : Int} (h : M.strB key seq n = true) : M.sumB key = true ∧ M.sumB seq = true ∧ 0 ≤ n ∧ n ≤ 200 := by
  simp only [M.strB, Bool.and_eq_true, decide_eq_true_eq] at h
  exact ⟨h.1.1, h.1.2, h.2.1, h.2.2⟩
end Go.Proofs.YtcnpocppgghejaaGreatDoor
namespace Go.Proofs.YtcnpocppgghejaaGreatDoor
open Go.RowKit
set_option maxRecDepth 100000
set_option linter.unusedVariables false

theorem str_info : (Tryz.prog.info? 9).map (fun i => (i.zero, i.size, i.bytes)) = some (some (.string ByteArray.empty), 1, 16) := by kernel_rfl

/-- A slice of texts that the call made. -/
def OwnS (w : World) (B : Nat) (v : Value) (ps : List (List UInt8)) : Prop := Own w B 1 v ps.length (ps.map fun p => Value.string (M.bs p))
theorem strs_oneCell (ps : List (List UInt8)) : ∀ u ∈ ps.map (fun p => Value.string (M.bs p)), u.oneCell' = true := by
  intro u hu
  obtain ⟨p, _, rfl⟩ := List.mem_map.1 hu
  rfl
/-- While a text is cut. -/
inductive CutRel (W : World) (s : ByteArray) (v fv : Value) (k : Nat) (wr : World) : Prop
  | on (done : List (List UInt8)) (f : Nat) : fv = .int .i64 f → M.CutAt s.data.toList done f k → OwnS wr W.heap.size v done → Below W.heap.size W wr → CutRel W s v fv k wr
  | off (f : Nat) : fv = .int .i64 f → k = s.size + 1 → OwnS wr W.heap.size v (M.cutL [] s.data.toList) → Below W.heap.size W wr → CutRel W s v fv k wr

theorem own_more {W wr w2 : World} {v v2 : Value} {done : List (List UInt8)} {p : List UInt8} {x : ByteArray} {o : Obj} (ho : OwnS wr W.heap.size v done) (hb : Below W.heap.size W wr) (hx : x = M.bs p)
    (hown : Own w2 W.heap.size 1 v2 (done.length + 1) (done.map (fun p => Value.string (M.bs p)) ++ [.string x])) (hg : (wr.alloc o).grownBy w2 v.ownBlock) : OwnS w2 W.heap.size v2 (done ++ [p]) ∧ Below W.heap.size W w2 := by
  have hsz := hb.size
  refine ⟨?_, (Own.alloc ho o).grown (bal hb o) (by simp; omega) hg⟩
  unfold OwnS
  rw [hx] at hown
  simpa using hown

def CutMade (s : ByteArray) (w : World) (r : Ending) (w' : World) : Prop := ∃ a n c, r = .returned (.slice a n c) ∧ OwnS w' w.heap.size (.slice a n c) (M.cutL [] s.data.toList) ∧ Below w.heap.size w w'

theorem l1Cut_any (s : ByteArray) (w : World) (hs : s.size ≤ 20) :
    Calls Tryz.prog 66 #[.string s, .int .u8 46] w (CutMade s w) := by
  obtain ⟨i0, hi0, hz0, hz1, hz2⟩ := info_parts str_info
  have hL : s.data.toList.length = s.size := by simp
  have T0 : CutRel w s (.slice (some ⟨w.heap.size, 0, none⟩) 0 0) (.int .i64 0) 0 (w.alloc (.cells #[] 9)) :=
    .on [] 0 rfl (M.CutAt.zero _) (own_empty w 9) (bal (Below.refl _ _) _)
  have h1 : ∀ x : ByteArray, ∀ u ∈ [Value.string x], u.oneCell' = true := fun x u hu => by simp at hu; subst hu; rfl
  go_enter Tryz.func66, Tryz.ntmps66
  go_wp2_with fail
  generalize w.alloc (.cells #[] 9) = W1 at *
  go_loopw [5, 6, 7] (fun v f i wr => ∃ k : Nat, k ≤ s.size + 1 ∧ i = .int .i64 k ∧ CutRel w s v f k wr) (fun _ _ i _ => s.size + 1 - (intOf i).toNat)
  case atStart => exact ⟨0, Nat.zero_le _, rfl, T0⟩
  case round =>
    obtain ⟨k, hk, rfl, hT⟩ := hrel
    rcases hT with ⟨done, f, rfl, hc, ho, hb⟩ | ⟨f, rfl, rfl, ho, hb⟩
    · have hfk := hc.1
      have hkl := hc.2.1
      rw [hL] at hkl
      have hdl := hc.done_le
      rw [hL] at hdl
      have hsz := hb.size
      by_cases hlt : k < s.size
      · have hbyte : s.data.toList[k]? = some s[k] := Lib.data_getElem? s k hlt
        have hne : ((k : Int) == (s.size : Int)) = false := by simp; omega
        cases hd : M.dotB s[k]
        · have hq := Lib.hid (hc.next hbyte hd)
          have hd' : ((s[k].toNat : Int) == 46) = false := by simpa [M.dotB] using hd
          clear hbyte hd hc hL
          have HO := Lib.hid (And.intro ho hb)
          clear ho hb
          go_wp2_with fail
          go_roundw
          case rel => exact ⟨k + 1, by omega, by go_num, .on done f rfl hq.out HO.out.1 HO.out.2⟩
          case measure => simp [intOf]; omega
        · have hq := Lib.hid (hc.cut hbyte hd)
          have hd' : ((s[k].toNat : Int) == 46) = true := by simpa [M.dotB] using hd
          clear hbyte hd hc hL
          go_wp2_with (at_builtin; refine wpList_append_src _ rfl (.tmp 26) (.tmp 31) 83 83 rfl w.heap.size 9 i0 (.string ByteArray.empty) 1 16 Tryz.underlying83 hi0 hz0 hz1 hz2 rfl _ _ _ rfl (Own.alloc ho _) _ 1 [.string (s.extract f k)] rfl (src_new wr _ 1 1 _ _ _ Tryz.underlying83 rfl (h1 _)) (by simp only [maxLen]; omega) (by omega) (by simp; omega) ?_; intro v2 w2 hown hgrow hat)
          have T3 := own_more ho hb (M.bs_extract s f k) hown hgrow
          clear hown hgrow hat ho hb
          go_wp2_with fail
          go_roundw
          case rel => exact ⟨k + 1, by omega, by go_num, .on _ (k + 1) (by go_num) hq.out T3.1 T3.2⟩
          case measure => simp [intOf]; omega
      · obtain rfl : k = s.size := by omega
        have hq := hc
        rw [← hL] at hq
        have HQ := Lib.hid hq.last
        clear hc hL hq
        go_wp2_with (at_builtin; refine wpList_append_src _ rfl (.tmp 26) (.tmp 31) 83 83 rfl w.heap.size 9 i0 (.string ByteArray.empty) 1 16 Tryz.underlying83 hi0 hz0 hz1 hz2 rfl _ _ _ rfl (Own.alloc ho _) _ 1 [.string (s.extract f s.size)] rfl (src_new wr _ 1 1 _ _ _ Tryz.underlying83 rfl (h1 _)) (by simp only [maxLen]; omega) (by omega) (by simp; omega) ?_; intro v2 w2 hown hgrow hat)
        have T3 := own_more ho hb (M.bs_extract s f s.size) hown hgrow
        clear hown hgrow hat ho hb
        go_wp2_with fail
        go_roundw
        case rel => exact ⟨s.size + 1, by omega, by go_num, .off (s.size + 1) (by go_num) rfl (by rw [HQ.out]; simpa using T3.1) T3.2⟩
        case measure => simp [intOf]
    · obtain ⟨a, c, hv, -⟩ := Own.form ho
      subst hv
      go_wp2_with fail
      go_ret
      exact ⟨_, _, _, rfl, ho, hb⟩

theorem OwnS.at {w : World} {B : Nat} {a : Option Addr} {n c : Nat} {ps : List (List UInt8)} (h : OwnS w B (.slice a n c) ps) {j : Nat} {p : List UInt8} (hp : ps[j]? = some p) :
    n = ps.length ∧ n ≤ c ∧ c ≤ maxLen ∧ ∃ g, a = some ⟨g, 0, none⟩ ∧ w.cell? ⟨g, j, none⟩ = some (.string (M.bs p)) := by
  have hj := (List.getElem?_eq_some_iff.1 hp).1
  rcases h.2 with ⟨e, h0⟩ | ⟨g, c', e, hB, hg, h1, h2, hc, hr⟩
  · omega
  · injection e with e1 e2 e3
    subst e1
    subst e3
    refine ⟨e2, by omega, h2, g, rfl, hc j _ ?_⟩
    rw [List.getElem?_map, hp]
    rfl
theorem OwnS.len {w : World} {B : Nat} {a : Option Addr} {n c : Nat} {ps : List (List UInt8)} (h : OwnS w B (.slice a n c) ps) : n = ps.length := by
  rcases h.2 with ⟨e, h0⟩ | ⟨g, c', e, _⟩
  · injection e with e1 e2 e3
    omega
  · injection e

theorem l5Fault_any (s : ByteArray) (w : World) (hs : s.size ≤ maxLen) :
    Calls Tryz.prog 40 #[.string s] w fun e w' => e = .returned (.int .i64 (M.nameF s.data.toList)) ∧ Below w.heap.size w w' := by
  have hL : s.data.toList.length = s.size := by simp
  have hm := hs
  unfold maxLen at hs
  by_cases h : 20 < s.size
  · have HE := Lib.hid (M.nameF_long (l := s.data.toList) (by omega))
    have h' : (20 : Int) < s.size := by omega
    go_enter Tryz.func40, Tryz.ntmps40
    go_wp2_with fail
    go_ret
    exact ⟨ret_int HE.out.symm, Below.refl _ _⟩
  have h' : ¬ (20 : Int) < s.size := by omega
  have hbl := M.bare_length s.data.toList
  have C1 : ∀ w, Calls Tryz.prog 66 #[.string (M.bs (M.bare s.data.toList)), .int .u8 46] w fun r w' => ∃ a n c, r = .returned (.slice a n c) ∧ OwnS w' w.heap.size (.slice a n c) (M.cutL [] (M.bare s.data.toList)) ∧ Below w.heap.size w w' :=
    fun w => (l1Cut_any (M.bs (M.bare s.data.toList)) w (by rw [M.bs_size]; omega)).mono fun r w' h => by
      unfold CutMade at h
      rwa [M.bs_list] at h
  have HE := Lib.hid (show M.nameF s.data.toList = if (M.cutL [] (M.bare s.data.toList)).all M.partB then 0 else 5 by
    unfold M.nameF
    rw [if_neg (by omega), M.hasP_eq])
  have HP := Lib.hid (M.cutL_part (M.bare s.data.toList) [])
  have hn0 := M.cutL_length (M.bare s.data.toList) []
  obtain ⟨ps, hps⟩ : ∃ ps, ps = M.cutL [] (M.bare s.data.toList) := ⟨_, rfl⟩
  simp only [← hps] at C1 HE HP hn0
  clear hps
  go_enter Tryz.func40, Tryz.ntmps40
  go_wp2_with fail
  refine (l5Bare_any s _ hm).mono ?_
  rintro r w' ⟨rfl, rfl⟩
  go_wp2_with fail
  refine (C1 _).mono ?_
  rintro r w1 ⟨a, n, c, rfl, ho, hb⟩
  clear C1
  obtain rfl := ho.len
  go_wp2_with fail
  go_loop [4] (fun i => ∃ k : Nat, k ≤ ps.length ∧ i = .int .i64 k ∧ Hid ((ps.take k).all M.partB = true)) (fun i => ps.length - (intOf i).toNat)
  case atStart => exact ⟨0, Nat.zero_le _, rfl, Lib.hid (by simp)⟩
  case round =>
    obtain ⟨k, hk, rfl, hall⟩ := hrel
    by_cases hlt : k < ps.length
    · obtain ⟨p, hp⟩ : ∃ p, ps[k]? = some p := ⟨ps[k], by simp [hlt]⟩
      obtain ⟨-, hnc, hcm, g, rfl, hcell⟩ := ho.at hp
      have hpl := HP.out p (List.mem_of_getElem? hp)
      have F := fun w => l5Part_any (M.bs p) w (by rw [M.bs_size]; simp only [maxLen]; simp at hpl; omega)
      simp only [M.bs_list] at F
      unfold maxLen at hcm
      cases hb2 : M.partB p
      · have HN : Hid (ps.all M.partB = false) := Lib.hid (by
          rw [List.all_eq_false]
          exact ⟨p, List.mem_of_getElem? hp, by simp [hb2]⟩)
        simp only [hb2] at F
        clear hp hpl
        go_wp2_with fail
        refine (F _).mono ?_
        rintro r w' ⟨rfl, rfl⟩
        go_wp2_with fail
        go_ret
        exact ⟨ret_int (by rw [HE.out, HN.out]; rfl), hb⟩
      · have HN : Hid ((ps.take (k + 1)).all M.partB = true) := Lib.hid (by
          rw [List.take_add_one, hp, List.all_append, hall.out]
          simp [hb2])
        simp only [hb2] at F
        clear hp hpl
        go_wp2_with fail
        refine (F _).mono ?_
        rintro r w' ⟨rfl, rfl⟩
        go_wp2_with fail
        go_round
        case rel => exact ⟨k + 1, by omega, by go_num, HN⟩
        case measure => simp [intOf]; omega
    · obtain rfl : k = ps.length := by omega
      go_wp2_with fail
      go_ret
      exact ⟨ret_int (by rw [HE.out, show ps.all M.partB = true by have := hall.out; rwa [List.take_length] at this]; rfl), hb⟩
end Go.Proofs.YtcnpocppgghejaaGreatDoor
namespace Go.Proofs.YtcnpocppgghejaaGreatDoor
open Go.Shelf
def lays159_ren : Go.Shelf.Ren := ⟨fun | 159 => 62 | 165 => 78 | 166 => 79 | 167 => 80 | 169 => 81 | 230 => 82 | 204 => 83 | 240 => 93 | 241 => 94 | 197 => 95 | 118 => 96 | 168 => 97 | 270 => 98 | 262 => 99 | 276 => 112 | 277 => 113 | 260 => 114 | 242 => 115 | 313 => 116 | 278 => 122 | 274 => 123 | 275 => 124 | n => n, fun | 9 => 9 | 4 => 4 | 3 => 3 | 5 => 5 | 72 => 100 | 0 => 0 | 76 => 104 | 75 => 103 | 107 => 109 | 70 => 98 | 20 => 20 | 37 => 22 | 127 => 119 | 21 => 21 | 105 => 120 | 164 => 139 | 162 => 145 | 203 => 143 | 119 => 152 | 46 => 89 | 139 => 155 | 138 => 154 | 51 => 136 | 160 => 156 | 208 => 165 | 206 => 163 | 80 => 107 | n => n, fun | 13 => 1 | 3 => 2 | 4 => 3 | n => n⟩
theorem lays159 : Go.Proofs.Lays.n159 Tryz.prog lays159_ren := {
  mixed := by kernel_rfl
  f118 := Tryz.func96.trans (congrArg some (by kernel_rfl))
  f159 := Tryz.func62.trans (congrArg some (by kernel_rfl))
  f165 := Tryz.func78.trans (congrArg some (by kernel_rfl))
  f166 := Tryz.func79.trans (congrArg some (by kernel_rfl))
  f167 := Tryz.func80.trans (congrArg some (by kernel_rfl))
  f168 := Tryz.func97.trans (congrArg some (by kernel_rfl))
  f169 := Tryz.func81.trans (congrArg some (by kernel_rfl))
  f197 := Tryz.func95.trans (congrArg some (by kernel_rfl))
  f204 := Tryz.func83.trans (congrArg some (by kernel_rfl))
  f230 := Tryz.func82.trans (congrArg some (by kernel_rfl))
  f240 := Tryz.func93.trans (congrArg some (by kernel_rfl))
  f241 := Tryz.func94.trans (congrArg some (by kernel_rfl))
  f242 := Tryz.func115.trans (congrArg some (by kernel_rfl))
  f260 := Tryz.func114.trans (congrArg some (by kernel_rfl))
  f262 := Tryz.func99.trans (congrArg some (by kernel_rfl))
  f270 := Tryz.func98.trans (congrArg some (by kernel_rfl))
  f274 := Tryz.func123.trans (congrArg some (by kernel_rfl))
  f275 := Tryz.func124.trans (congrArg some (by kernel_rfl))
  f276 := Tryz.func112.trans (congrArg some (by kernel_rfl))
  f277 := Tryz.func113.trans (congrArg some (by kernel_rfl))
  f278 := Tryz.func122.trans (congrArg some (by kernel_rfl))
  f313 := Tryz.func116.trans (congrArg some (by kernel_rfl))
  t0 := Tryz.underlying0
  a0 := Tryz.isAgg0
  z0 := Tryz.sizeOf0
  v0 := Tryz.zeroValue0
  t3 := Tryz.underlying3
  a3 := Tryz.isAgg3
  z3 := Tryz.sizeOf3
  v3 := Tryz.zeroValue3
  t4 := Tryz.underlying4
  a4 := Tryz.isAgg4
  z4 := Tryz.sizeOf4
  v4 := Tryz.zeroValue4
  t5 := Tryz.underlying5
  a5 := Tryz.isAgg5
  z5 := Tryz.sizeOf5
  v5 := Tryz.zeroValue5
  t9 := Tryz.underlying9
  a9 := Tryz.isAgg9
  z9 := Tryz.sizeOf9
  v9 := Tryz.zeroValue9
  t20 := Tryz.underlying20
  a20 := Tryz.isAgg20
  z20 := Tryz.sizeOf20
  v20 := Tryz.zeroValue20
  t21 := Tryz.underlying21
  a21 := Tryz.isAgg21
  z21 := Tryz.sizeOf21
  v21 := Tryz.zeroValue21
  t37 := Tryz.underlying22
  a37 := Tryz.isAgg22
  z37 := Tryz.sizeOf22
  v37 := Tryz.zeroValue22
  t46 := Tryz.underlying89
  a46 := Tryz.isAgg89
  z46 := Tryz.sizeOf89
  v46 := Tryz.zeroValue89
  t51 := Tryz.underlying136
  a51 := Tryz.isAgg136
  z51 := Tryz.sizeOf136
  v51 := Tryz.zeroValue136
  t70 := Tryz.underlying98
  a70 := Tryz.isAgg98
  z70 := Tryz.sizeOf98
  v70 := Tryz.zeroValue98
  t72 := Tryz.underlying100
  a72 := Tryz.isAgg100
  z72 := Tryz.sizeOf100
  v72 := Tryz.zeroValue100
  t75 := Tryz.underlying103
  a75 := Tryz.isAgg103
  z75 := Tryz.sizeOf103
  v75 := Tryz.zeroValue103
  t76 := Tryz.underlying104
  a76 := Tryz.isAgg104
  z76 := Tryz.sizeOf104
  v76 := Tryz.zeroValue104
  t105 := Tryz.underlying120
  a105 := Tryz.isAgg120
  z105 := Tryz.sizeOf120
  v105 := Tryz.zeroValue120
  t107 := Tryz.underlying109
  a107 := Tryz.isAgg109
  z107 := Tryz.sizeOf109
  v107 := Tryz.zeroValue109
  t119 := Tryz.underlying152
  a119 := Tryz.isAgg152
  z119 := Tryz.sizeOf152
  t127 := Tryz.underlying119
  a127 := Tryz.isAgg119
  z127 := Tryz.sizeOf119
  v127 := Tryz.zeroValue119
  t138 := Tryz.underlying154
  a138 := Tryz.isAgg154
  z138 := Tryz.sizeOf154
  v138 := Tryz.zeroValue154
  t139 := Tryz.underlying155
  a139 := Tryz.isAgg155
  z139 := Tryz.sizeOf155
  v139 := Tryz.zeroValue155
  t160 := Tryz.underlying156
  a160 := Tryz.isAgg156
  z160 := Tryz.sizeOf156
  v160 := Tryz.zeroValue156
  t162 := Tryz.underlying145
  a162 := Tryz.isAgg145
  z162 := Tryz.sizeOf145
  v162 := Tryz.zeroValue145
  t164 := Tryz.underlying139
  a164 := Tryz.isAgg139
  z164 := Tryz.sizeOf139
  v164 := Tryz.zeroValue139
  t203 := Tryz.underlying143
  a203 := Tryz.isAgg143
  z203 := Tryz.sizeOf143
  v203 := Tryz.zeroValue143
  t206 := Tryz.underlying163
  a206 := Tryz.isAgg163
  z206 := Tryz.sizeOf163
  v206 := Tryz.zeroValue163
  t208 := Tryz.underlying165
  a208 := Tryz.isAgg165
  z208 := Tryz.sizeOf165
  v208 := Tryz.zeroValue165
  g3 := by kernel_rfl
  g4 := by kernel_rfl
  g13 := by kernel_rfl }
def lays102_ren : Go.Shelf.Ren := ⟨fun | 102 => 63 | 209 => 84 | 207 => 100 | n => n, fun | 9 => 9 | 4 => 4 | 3 => 3 | n => n, fun | n => n⟩
theorem lays102 : Go.Proofs.Lays.n102 Tryz.prog lays102_ren := {
  mixed := by kernel_rfl
  f102 := Tryz.func63.trans (congrArg some (by kernel_rfl))
  f207 := Tryz.func100.trans (congrArg some (by kernel_rfl))
  f209 := Tryz.func84.trans (congrArg some (by kernel_rfl))
  t3 := Tryz.underlying3
  a3 := Tryz.isAgg3
  z3 := Tryz.sizeOf3
  v3 := Tryz.zeroValue3
  t4 := Tryz.underlying4
  a4 := Tryz.isAgg4
  z4 := Tryz.sizeOf4
  v4 := Tryz.zeroValue4
  t9 := Tryz.underlying9
  a9 := Tryz.isAgg9
  z9 := Tryz.sizeOf9
  v9 := Tryz.zeroValue9 }
end Go.Proofs.YtcnpocppgghejaaGreatDoor
namespace Go.Proofs.YtcnpocppgghejaaGreatDoor
open Go.RowKit

/-- The worlds of which S holds, named by themselves. -/
structure Of (S : World → Prop) where
  val : World
  prop : S val

/-- Nothing of W has turned. -/
structure Bel (W w : World) : Prop where
  out : Below W.heap.size W w
theorem Bel.on {W w w' : World} (h : Bel W w) (hb : Below w.heap.size w w') : Bel W w' := ⟨btr h.out hb⟩
theorem Bel.drew (W : World) : Bel W W.drew := ⟨(Below.refl _ _).drew⟩

/-- Two numbers lie at block g, behind what was there. -/
structure SigAt (w : World) (g : Nat) (p q : Int) (cur : World) : Prop where
  bel : Below w.heap.size w cur
  c0 : cur.cell? ⟨g, 0, none⟩ = some (.int .i64 p)
  c1 : cur.cell? ⟨g, 1, none⟩ = some (.int .i64 q)
theorem SigAt.on {w : World} {g : Nat} {p q : Int} {cur cur' : World} (h : SigAt w g p q cur) (hb : Below cur.heap.size cur cur') : SigAt w g p q cur' := ⟨btr h.bel hb, cell_keep hb h.c0, cell_keep hb h.c1⟩
theorem SigAt.set {w : World} {g : Nat} {p q : Int} {cur : World} (h : SigAt w g p q cur) (hg : w.heap.size < g) {x y : Value} : SigAt w g p q ((cur.setCell ⟨w.heap.size, 0, none⟩ x).setCell ⟨w.heap.size, 1, none⟩ y) := by
  have ne : ∀ i j, (⟨w.heap.size, i, none⟩ : Addr) ≠ ⟨g, j, none⟩ := fun i j e => by injection e with e1; omega
  refine ⟨bset (bset h.bel (Nat.le_refl _) _) (Nat.le_refl _) _, ?_, ?_⟩
  · rw [World.cell?_setCell_other _ _ _ _ (ne 1 0), World.cell?_setCell_other _ _ _ _ (ne 0 0)]; exact h.c0
  · rw [World.cell?_setCell_other _ _ _ _ (ne 1 1), World.cell?_setCell_other _ _ _ _ (ne 0 1)]; exact h.c1

/-- It reads, and does nothing else. -/
def readsB (o : Oper) : Bool := match o.op with
  | .move _ => true
  | .assign _ => true
  | .pick _ _ _ => true
  | .load _ _ => true
  | .binOp _ _ _ _ _ => true
  | .unOp _ _ _ => true
  | .slice _ _ _ _ _ => true
  | .fieldAddr _ _ _ => true
  | .field _ _ _ => true
  | .indexAddr _ _ _ => true
  | .index _ _ _ => true
  | .extract _ _ => true
  | .nilCheck _ => true
  | .convert _ _ _ => true
  | .build _ _ => true
  | .call c => match c.callee with
    | .builtin .len => true
    | _ => false
  | _ => false

theorem value_of_bind {P : Program} {s : Sem Value} {w w' : World} {n : Next} (h : (s >>= fun x => pure (Next.value x)).run P w = .ok n w') : ∃ u, n = .value u := by
  rw [Sem.run_bind] at h
  cases hs : s.run P w with
  | ok x w1 =>
    rw [hs] at h
    simp only [Result.andThen_ok, Sem.run_pure] at h
    injection h with h1 h2
    exact ⟨x, h1.symm⟩
  | halt x w1 =>
    rw [hs] at h
    cases h
theorem bind_tail {P : Program} {α β : Type} {s : Sem α} {f : α → Sem β} {w w' : World} {n : β} (h : (s >>= f).run P w = .ok n w') : ∃ x w1, (f x).run P w1 = .ok n w' := by
  rw [Sem.run_bind] at h
  cases hs : s.run P w with
  | ok x w1 =>
    rw [hs] at h
    exact ⟨x, w1, by simpa only [Result.andThen_ok] using h⟩
  | halt x w1 =>
    rw [hs] at h
    cases h
theorem reads_value {P : Program} {o : Oper} (h : readsB o = true) {ρ : Operand → Value} {w w' : World} {n : Next} (hr : (execOp ρ o).run P w = .ok n w') : ∃ u, n = .value u := by
  unfold execOp at hr
  unfold readsB at h
  cases hop : o.op <;> rw [hop] at h hr <;> first | (cases h; done) | skip
  case move x => simp only [Sem.run_pure] at hr; injection hr with h1 h2; exact ⟨_, h1.symm⟩
  case assign x => simp only [Sem.run_pure] at hr; injection hr with h1 h2; exact ⟨_, h1.symm⟩
  case pick c x y =>
    have := value_of_bind (s := do pure (if ← asBool (ρ c) then ρ x else ρ y)) (P := P) (w := w) (w' := w') (n := n) (by simpa using hr)
    exact this
  case call c =>
    simp only at h
    split at h
    · rename_i hc
      simp only [resolve, hc, invoke, builtin] at hr
      simp only [Sem.run_bind, Sem.run_pure, Result.andThen_ok] at hr
      exact value_of_bind (P := P) (s := Builtin.len_ c.argTypes o.type (Array.map ρ c.args)) (w := w) (w' := w') (by rw [Sem.run_bind]; simpa only [Sem.run_pure] using hr)
    · cases h
  case nilCheck x =>
    simp only at hr
    split at hr
    · simp [runtimePanic, goPanic, Result.andThen] at hr
    · simp [runtimePanic, goPanic, Result.andThen] at hr
    · simp [runtimePanic, goPanic, Result.andThen] at hr
    · split at hr
      · simp [runtimePanic, goPanic, Result.andThen] at hr
      · obtain ⟨_, _, hr⟩ := bind_tail hr
        obtain ⟨_, _, hr⟩ := bind_tail hr
        split at hr
        · obtain ⟨_, _, hr⟩ := bind_tail hr
          simp only [Sem.run_pure] at hr; injection hr with h1 h2; exact ⟨_, h1.symm⟩
        · simp only [Sem.run_pure] at hr; injection hr with h1 h2; exact ⟨_, h1.symm⟩
      · simp only [Sem.run_pure] at hr; injection hr with h1 h2; exact ⟨_, h1.symm⟩
    · simp only [Sem.run_pure] at hr; injection hr with h1 h2; exact ⟨_, h1.symm⟩
  all_goals exact value_of_bind hr

section
variable {P : Program} {ops : Array Oper} {Q : Exit → Act → World → Prop} {md : Region.Mode} {S : World → Prop}

def wpLine (P : Program) (ops : Array Oper) (S : World → Prop) (Q : Exit → Act → World → Prop) (C : Act → World → Prop) : List (Nat × Bool) → Act → World → Prop
  | [], a, w => C a w
  | (i, m) :: r, a, w => match ops[i]? with
    | none => False
    | some o =>
      if Region.wanted o (yielded ops a.tmps) = true then
        (if m = true then o.quiet P a (fun w' => ∃ x : Of S, w' = x.val) (fun a' => wpLine P ops S Q C r a' w) else o.wp P a w (fun a' w' => S w' ∧ wpLine P ops S Q C r a' w') Q)
      else wpLine P ops S Q C r (a.put o.dst undef) w

/-- What has come up behind a line. -/
def marked (listed : Array Bool) : List (Nat × Bool) → Array Bool
  | [] => listed
  | (i, _) :: r => marked (listed.setIfInBounds i true) r
def segB (md : Region.Mode) (ops : Array Oper) : List (Nat × Bool) → Array Bool → Bool
  | [], _ => true
  | (i, m) :: r, listed =>
    (match ops[i]? with
      | some o => if m then (Region.ready md ops listed).contains i && Region.free md ops listed i && readsB o else decide (Region.ready md ops listed = [i])
      | none => false) && segB md ops r (listed.setIfInBounds i true)

theorem wpAnyH_seg (hs : Region.noSelect ops = true) (hQ : ∀ c a d v w, Q (.panic c) (a.put d v) w → Q (.panic c) a w) {C : Act → World → Prop} (n : Nat) : ∀ (l : List (Nat × Bool)) (listed : Array Bool) (a : Act) (w : World),
    segB md ops l listed = true → S w → (∀ a w, C a w → S w → wpAnyH P md ops Q S n (marked listed l) a w) → wpLine P ops S Q C l a w → wpAnyH P md ops Q S (n + l.length) listed a w
  | [], listed, a, w, _, hS, hC, h => hC a w h hS
  | (i, m) :: r, listed, a, w, hB, hS, hC, h => by
    unfold wpLine at h
    unfold segB at hB
    cases ho : ops[i]? with
    | none => rw [ho] at h; exact h.elim
    | some o =>
      rw [ho] at h hB
      simp only [Bool.and_eq_true] at h hB
      obtain ⟨h1, h2⟩ := hB
      have hC' : ∀ a w, C a w → S w → wpAnyH P md ops Q S n (marked (listed.setIfInBounds i true) r) a w := hC
      have e : n + ((i, m) :: r).length = (n + r.length) + 1 := by simp; omega
      rw [e]
      cases m with
      | true =>
        simp only [if_true, Bool.and_eq_true] at h1 h
        obtain ⟨⟨hr, hf⟩, hrd⟩ := h1
        by_cases hw : Region.wanted o (yielded ops a.tmps) = true
        · rw [if_pos hw] at h
          obtain ⟨v, hv, hn⟩ := h
          refine wpAnyH_take ho hs hf hr (fun c a w => hQ c a _ _ w) (Or.inl ⟨hw, fun w1 hS1 => ?_⟩) hS (wpAnyH_seg hs hQ n r _ _ w h2 hS hC' hn)
          have hq := hv w1 ⟨⟨w1, hS1⟩, rfl⟩
          unfold Oper.quietAt at hq
          cases hx : (execOp a.eval o).run P w1 with
          | halt x w2 => rw [hx] at hq; exact hq.elim
          | ok n w2 =>
            obtain ⟨u, rfl⟩ := reads_value hrd hx
            rw [hx] at hq
            obtain ⟨e1, e2⟩ := hq
            rw [e1, e2]
        · rw [if_neg hw] at h
          have hw' : Region.wanted o (yielded ops a.tmps) = false := by simpa using hw
          exact wpAnyH_take ho hs hf hr (fun c a w => hQ c a _ _ w) (Or.inr ⟨hw', rfl⟩) hS (wpAnyH_seg hs hQ n r _ _ w h2 hS hC' h)
      | false =>
        simp only [Bool.false_eq_true, if_false, decide_eq_true_eq] at h1 h
        refine wpAnyH_all h1 (by simp) fun j hj => ?_
        have hj2 : j = i := by simpa using hj
        subst hj2
        unfold wpOp
        rw [ho]
        by_cases hw : Region.wanted o (yielded ops a.tmps) = true
        · simp only [hw, if_true] at h ⊢
          exact .inl (Oper.wp_mono (fun a' w' h' => ⟨h'.1, wpAnyH_seg hs hQ n r _ a' w' h2 h'.1 hC' h'.2⟩) h)
        · simp only [hw] at h ⊢
          exact ⟨hS, wpAnyH_seg hs hQ n r _ _ w h2 hS hC' h⟩

/-- The same, shut: nothing is reckoned of it till it is opened. -/
structure LineP (P : Program) (ops : Array Oper) (S : World → Prop) (Q : Exit → Act → World → Prop) (C : Act → World → Prop) (l : List (Nat × Bool)) (a : Act) (w : World) : Prop where
  out : wpLine P ops S Q C l a w

theorem wp_region_line {id : Nat} {a : Act} {w : World} {l : List Oper} (S : World → Prop) (π : List (Nat × Bool)) (hm : P.follows .mixedOrders = true)
    (hB : (Region.noSelect l.toArray && decide (π.length = l.length) && segB .any l.toArray π (Array.replicate l.toArray.size false) && (Region.ready .any l.toArray (marked (Array.replicate l.toArray.size false) π)).isEmpty) = true) (hQ : ∀ c a d v w, Q (.panic c) (a.put d v) w → Q (.panic c) a w)
    (hS : S w.drew) (h : LineP P l.toArray S Q (Q .normal) π a w.drew) : (Code.region id l.toArray true).wp P Q a w := by
  simp only [Bool.and_eq_true, decide_eq_true_eq] at hB
  refine wp_region_held (S := S) hm ?_
  have := wpAnyH_seg (md := .any) (C := Q .normal) hB.1.1.1 hQ 0 π _ a w.drew hB.1.2 hS (fun a w hc _ => ⟨by simpa using hB.2, hc⟩) h.out
  rw [hB.1.1.2] at this
  simpa using this

/-- It ends as it should, and in no panic. -/
def OnlyN (K : Act → World → Prop) : Exit → Act → World → Prop
  | .normal, a, w => K a w
  | _, _, _ => False
/-- The same where a panic would be heard by somebody. -/
theorem wp_region_lineN {id : Nat} {a : Act} {w : World} {l : List Oper} (S : World → Prop) (π : List (Nat × Bool)) (hm : P.follows .mixedOrders = true)
    (hB : (Region.noSelect l.toArray && decide (π.length = l.length) && segB .any l.toArray π (Array.replicate l.toArray.size false) && (Region.ready .any l.toArray (marked (Array.replicate l.toArray.size false) π)).isEmpty) = true)
    (hS : S w.drew) (h : LineP P l.toArray S (OnlyN (Q .normal)) (Q .normal) π a w.drew) : (Code.region id l.toArray true).wp P Q a w :=
  wp_mono (wp_region_line (Q := OnlyN (Q .normal)) S π hm hB (fun _ _ _ _ _ h => h.elim) hS h) (fun e a w hq => by cases e <;> first | exact hq | exact hq.elim)

/-- What is left of a region, whichever comes up next. -/
structure AnyP (P : Program) (ops : Array Oper) (S : World → Prop) (Q : Exit → Act → World → Prop) (n : Nat) (listed : Array Bool) (a : Act) (w : World) : Prop where
  out : S w → wpAnyH P .any ops Q S n listed a w
theorem wp_region_fork {id : Nat} {a : Act} {w : World} {l : List Oper} (S : World → Prop) (hm : P.follows .mixedOrders = true) (hS : S w.drew) (h : AnyP P l.toArray S Q l.length (Array.replicate l.toArray.size false) a w.drew) : (Code.region id l.toArray true).wp P Q a w := by
  refine wp_region_held (S := S) hm ?_
  have := h.out hS
  simpa using this
theorem any_seg {a : Act} {w : World} {l : List Oper} {n : Nat} {listed : Array Bool} (m : Nat) (π : List (Nat × Bool)) (hB : (Region.noSelect l.toArray && decide (n = m + π.length) && segB .any l.toArray π listed) = true) (hQ : ∀ c a d v w, Q (.panic c) (a.put d v) w → Q (.panic c) a w)
    (h : LineP P l.toArray S Q (AnyP P l.toArray S Q m (marked listed π)) π a w) : AnyP P l.toArray S Q n listed a w := by
  simp only [Bool.and_eq_true, decide_eq_true_eq] at hB
  refine ⟨fun hS => ?_⟩
  rw [hB.1.2]
  exact wpAnyH_seg (md := .any) hB.1.1 hQ m π _ a w hB.2 hS (fun a w hc hS => hc.out hS) h.out
/-- All that is left, along a line. -/
theorem any_rest {a : Act} {w : World} {l : List Oper} {n : Nat} {listed : Array Bool} (π : List (Nat × Bool)) (hB : (Region.noSelect l.toArray && decide (n = π.length) && segB .any l.toArray π listed && (Region.ready .any l.toArray (marked listed π)).isEmpty) = true) (hQ : ∀ c a d v w, Q (.panic c) (a.put d v) w → Q (.panic c) a w)
    (h : LineP P l.toArray S Q (Q .normal) π a w) : AnyP P l.toArray S Q n listed a w := by
  simp only [Bool.and_eq_true, decide_eq_true_eq] at hB
  refine ⟨fun hS => ?_⟩
  have := wpAnyH_seg (md := .any) (C := Q .normal) hB.1.1.1 hQ 0 π _ a w hB.1.2 hS (fun a w hc _ => ⟨by simpa using hB.2, hc⟩) h.out
  rw [hB.1.1.2]
  simpa using this
/-- Two may come up next. -/
theorem any_fork {a : Act} {w : World} {l : List Oper} {n : Nat} {listed : Array Bool} {o1 o2 : Oper} (i j : Nat) (hr : Region.ready .any l.toArray listed = [i, j]) (ho1 : l[i]? = some o1) (ho2 : l[j]? = some o2) (hw1 : Region.wanted o1 (yielded l.toArray a.tmps) = true) (hw2 : Region.wanted o2 (yielded l.toArray a.tmps) = true)
    (h1 : ∀ K : Act → World → Prop, (∀ a' w', S w' → AnyP P l.toArray S Q n (listed.setIfInBounds i true) a' w' → K a' w') → o1.wp P a w K Q) (h2 : ∀ K : Act → World → Prop, (∀ a' w', S w' → AnyP P l.toArray S Q n (listed.setIfInBounds j true) a' w' → K a' w') → o2.wp P a w K Q) :
    AnyP P l.toArray S Q (n + 1) listed a w := by
  refine ⟨fun hS => wpAnyH_all hr (by simp) fun x hx => ?_⟩
  simp only [List.mem_cons, List.not_mem_nil, or_false] at hx
  rcases hx with rfl | rfl
  · unfold wpOp
    rw [show l.toArray[x]? = some o1 by simpa using ho1]
    simp only [hw1, if_true]
    exact .inl (h1 _ (fun a' w' hS' h' => ⟨hS', h'.out hS'⟩))
  · unfold wpOp
    rw [show l.toArray[x]? = some o2 by simpa using ho2]
    simp only [hw2, if_true]
    exact .inl (h2 _ (fun a' w' hS' h' => ⟨hS', h'.out hS'⟩))

variable {a : Act} {w : World} {i : Nat} {m : Bool} {o : Oper} {r : List (Nat × Bool)} {l : List Oper} {C : Act → World → Prop}
theorem line_read (ho : l[i]? = some o) (hw : Region.wanted o (yielded l.toArray a.tmps) = true)
    (h : ∀ K : Act → Prop, (∀ a', LineP P l.toArray S Q C r a' w → K a') → o.quiet P a (fun w' => ∃ x : Of S, w' = x.val) K) : LineP P l.toArray S Q C ((i, true) :: r) a w := by
  refine ⟨?_⟩
  unfold wpLine
  rw [show l.toArray[i]? = some o by simpa using ho]
  simp only [hw, if_true]
  exact h _ (fun _ h => h.out)
theorem line_skip (ho : l[i]? = some o) (hw : Region.wanted o (yielded l.toArray a.tmps) = false) (h : LineP P l.toArray S Q C r (a.put o.dst undef) w) : LineP P l.toArray S Q C ((i, m) :: r) a w := by
  refine ⟨?_⟩
  unfold wpLine
  rw [show l.toArray[i]? = some o by simpa using ho]
  simp only [hw, Bool.false_eq_true, if_false]
  exact h.out
theorem line_alone (ho : l[i]? = some o) (hw : Region.wanted o (yielded l.toArray a.tmps) = true)
    (h : ∀ K : Act → World → Prop, (∀ a' w', S w' → LineP P l.toArray S Q C r a' w' → K a' w') → o.wp P a w K Q) : LineP P l.toArray S Q C ((i, false) :: r) a w := by
  refine ⟨?_⟩
  unfold wpLine
  rw [show l.toArray[i]? = some o by simpa using ho]
  simp only [hw, if_true, Bool.false_eq_true, if_false]
  exact h _ (fun _ _ h1 h2 => ⟨h1, h2.out⟩)
/-- Function f has a body. -/
def callsB (P : Program) (f : FuncId) : Bool := match P.funcs[f]? with
  | some fn => !(fn.name == "runtime.NumGoroutine") && fn.body.isSome
  | none => false
theorem run_callFunc_body {f : FuncId} (hf : callsB P f = true) (args : Array Value) (w : World) : (callFunc f args).run P w = .ok (.enter f args) w := by
  unfold callsB at hf
  split at hf
  · rename_i fn hfn
    simp only [Bool.and_eq_true, Bool.not_eq_true', beq_eq_false_iff_ne] at hf
    obtain ⟨h1, h2⟩ := hf
    simp [callFunc, hfn, h1]
    intro hb
    rw [hb] at h2
    cases h2
  · cases hf
/-- A call of a Go function, by its contract. -/
theorem call_wp {K : Act → World → Prop} {f : FuncId} {xs : Array Operand} {ts : Array TypeId} {args : Array Value} {v : Value} {R : World → Prop} (ho : o.op = Op.call { callee := .value (.func f), args := xs, argTypes := ts }) (hf : callsB P f = true) (hargs : xs.map a.eval = args)
    (h : Calls P f args w fun e w' => e = .returned v ∧ R w') (hK : ∀ w', R w' → K (a.put o.dst v) w') : o.wp P a w K Q := by
  have e : (execOp a.eval o).run P w = .ok (.enter f args) w := by
    unfold execOp
    simp [ho, resolve, hargs, invoke, Act.eval, Deferred.ofValue, run_callFunc_body hf]
  unfold Oper.wp
  rw [e]
  exact h.mono fun e w' ⟨he, hR⟩ => by subst he; exact hK w' hR
/-- The same where what is answered is known by what it is good for alone. -/
theorem call_any {K : Act → World → Prop} {f : FuncId} {xs : Array Operand} {ts : Array TypeId} {args : Array Value} {R : Ending → World → Prop} (ho : o.op = Op.call { callee := .value (.func f), args := xs, argTypes := ts }) (hf : callsB P f = true) (hargs : xs.map a.eval = args)
    (h : Calls P f args w R) (hK : ∀ e w', R e w' → ∃ v, e = .returned v ∧ K (a.put o.dst v) w') : o.wp P a w K Q := by
  have e : (execOp a.eval o).run P w = .ok (.enter f args) w := by
    unfold execOp
    simp [ho, resolve, hargs, invoke, Act.eval, Deferred.ofValue, run_callFunc_body hf]
  unfold Oper.wp
  rw [e]
  exact h.mono fun e w' hR => by
    obtain ⟨v, he, hk⟩ := hK e w' hR
    subst he
    exact hk
/-- What makes a value out of values, and looks at no memory. -/
theorem line_value {v : Value} (ho : l[i]? = some o) (hw : Region.wanted o (yielded l.toArray a.tmps) = true) (hv : (execOp a.eval o).run P w = .ok (.value v) w) (hS : S w) (h : LineP P l.toArray S Q C r (a.put o.dst v) w) : LineP P l.toArray S Q C ((i, false) :: r) a w :=
  line_alone ho hw fun K hK => by
    unfold Oper.wp
    rw [hv]
    exact hK _ _ hS h
/-- The same as what only reads. -/
theorem line_readv {v : Value} (ho : l[i]? = some o) (hw : Region.wanted o (yielded l.toArray a.tmps) = true) (hv : ∀ w, (execOp a.eval o).run P w = .ok (.value v) w) (h : LineP P l.toArray S Q C r (a.put o.dst v) w) : LineP P l.toArray S Q C ((i, true) :: r) a w :=
  line_read ho hw fun K hK => ⟨v, fun w' _ => by unfold Oper.quietAt; rw [hv]; exact ⟨rfl, rfl⟩, hK _ h⟩
theorem line_nil (h : C a w) : LineP P ops S Q C [] a w := ⟨h⟩
end
end Go.Proofs.YtcnpocppgghejaaGreatDoor
namespace Go.Proofs.YtcnpocppgghejaaGreatDoor
open Go.RowKit
set_option maxRecDepth 100000
set_option linter.unusedVariables false

theorem row_two {w : World} (x y : Int) (t : TypeId) (hx : M.sumB x = true) (hy : M.sumB y = true) : Row .i64 (w.alloc (.cells #[.int .i64 x, .int .i64 y] t)) (w.heap.size + 1) (some ⟨w.heap.size, 0, none⟩) 2 2 [x, y] :=
  row_at w.heap.size 2 [x, y] t (MapKept.heap_alloc w _).1 rfl (by simp only [maxLen]; omega) (fun u hu => by
    simp at hu
    rcases hu with rfl | rfl
    · exact sum_wf hx
    · exact sum_wf hy)
/-- The cells of a result that is not yet told. -/
structure Res2 (g : Nat) (w : World) : Prop where
  c0 : w.cell? ⟨g, 0, none⟩ = some (.int .i64 0)
  c1 : w.cell? ⟨g, 1, none⟩ = some (.int .i64 0)
  f0 : w.frozen? ⟨g, 0, none⟩ = false
  f1 : w.frozen? ⟨g, 1, none⟩ = false
theorem Res2.new (w : World) (t : TypeId) : Res2 w.heap.size (w.alloc (.cells #[.int .i64 0, .int .i64 0] t)) := ⟨by go_simp, by go_simp, by go_simp, by go_simp⟩
theorem Res2.on {g : Nat} {w w' : World} (h : Res2 g w) (hb : Below w.heap.size w w') : Res2 g w' :=
  ⟨cell_keep hb h.c0, cell_keep hb h.c1, (hb.frozen (p := ⟨g, 0, none⟩) (cell_lt h.c0)).trans h.f0, (hb.frozen (p := ⟨g, 1, none⟩) (cell_lt h.c1)).trans h.f1⟩
structure Res3 (g : Nat) (w : World) : Prop where
  c0 : w.cell? ⟨g, 0, none⟩ = some (.int .i64 0)
  c1 : w.cell? ⟨g, 1, none⟩ = some (.int .i64 0)
  c2 : w.cell? ⟨g, 2, none⟩ = some (.int .i64 0)
  f0 : w.frozen? ⟨g, 0, none⟩ = false
  f1 : w.frozen? ⟨g, 1, none⟩ = false
  f2 : w.frozen? ⟨g, 2, none⟩ = false
theorem Res3.new (w : World) (t : TypeId) : Res3 w.heap.size (w.alloc (.cells #[.int .i64 0, .int .i64 0, .int .i64 0] t)) := ⟨by go_simp, by go_simp, by go_simp, by go_simp, by go_simp, by go_simp⟩
theorem Res3.on {g : Nat} {w w' : World} (h : Res3 g w) (hb : Below w.heap.size w w') : Res3 g w' :=
  ⟨cell_keep hb h.c0, cell_keep hb h.c1, cell_keep hb h.c2, (hb.frozen (p := ⟨g, 0, none⟩) (cell_lt h.c0)).trans h.f0, (hb.frozen (p := ⟨g, 1, none⟩) (cell_lt h.c1)).trans h.f1, (hb.frozen (p := ⟨g, 2, none⟩) (cell_lt h.c2)).trans h.f2⟩
theorem bdrew (w : World) : Below w.heap.size w w.drew := (Below.refl _ _).drew
/-- Two bytes, the higher one first. -/
theorem or_two (x y : Nat) (hx : x ≤ 255) (hy : y ≤ 255) : bits .or .i64 ((x : Int) * 256) (y : Int) = 256 * (x : Int) + y := by
  have e1 : BitVec.ofInt 64 ((x : Int) * 256) = BitVec.ofNat 64 (x * 256) := by
    rw [show (x : Int) * 256 = ((x * 256 : Nat) : Int) by omega, BitVec.ofInt_natCast]
  have e2 : BitVec.ofInt 64 (y : Int) = BitVec.ofNat 64 y := BitVec.ofInt_natCast ..
  show IntKind.i64.wrap ((BitVec.ofInt 64 ((x : Int) * 256) ||| BitVec.ofInt 64 (y : Int)).toNat : Nat) = _
  rw [e1, e2, BitVec.toNat_or, BitVec.toNat_ofNat, BitVec.toNat_ofNat, Nat.mod_eq_of_lt (by omega), Nat.mod_eq_of_lt (by omega)]
  have h := Nat.shiftLeft_add_eq_or_of_lt (i := 8) (b := y) (by omega) x
  rw [Nat.shiftLeft_eq] at h
  rw [show x * 256 = x * 2 ^ 8 from rfl, ← h, IntKind.wrap_i64]
  omega
theorem readTwo_any (b off len cap : Nat) (x y : Int) (w : World) (hl : 2 ≤ len) (hc : len ≤ cap) (hm : cap ≤ maxLen) (c0 : w.cell? ⟨b, off, none⟩ = some (.int .u8 x)) (c1 : w.cell? ⟨b, off + 1, none⟩ = some (.int .u8 y))
    (x0 : 0 ≤ x) (x1 : x ≤ 255) (y0 : 0 ≤ y) (y1 : y ≤ 255) :
    Calls Tryz.prog 38 #[.slice (some ⟨b, off, none⟩) len cap] w fun r w' => r = .returned (.int .i64 (256 * x + y)) ∧ Below w.heap.size w w' := by
  unfold maxLen at hm
  obtain ⟨x, rfl⟩ := Int.eq_ofNat_of_zero_le x0
  obtain ⟨y, rfl⟩ := Int.eq_ofNat_of_zero_le y0
  have ho := or_two x y (by omega) (by omega)
  go_enter Tryz.func38, Tryz.ntmps38
  go_wp2_with fail
  go_quiet (fail)
  go_wp2_with fail
  go_ret
  refine ⟨?_, bdrewN (Below.refl _ _) _⟩
  rfl
theorem l1At_any (b off len cap k : Nat) (x y : Int) (w : World) (hl : k + 1 < len) (hk : k ≤ 1000) (hc : len ≤ cap) (hm : cap ≤ maxLen) (c0 : w.cell? ⟨b, off + k, none⟩ = some (.int .u8 x)) (c1 : w.cell? ⟨b, off + (k + 1), none⟩ = some (.int .u8 y))
    (x0 : 0 ≤ x) (x1 : x ≤ 255) (y0 : 0 ≤ y) (y1 : y ≤ 255) :
    Calls Tryz.prog 71 #[.slice (some ⟨b, off, none⟩) len cap, .int .i64 k] w fun r w' => r = .returned (.int .i64 (256 * x + y)) ∧ Below w.heap.size w w' := by
  unfold maxLen at hm
  go_enter Tryz.func71, Tryz.ntmps71
  go_wp2_with fail
  go_quiet (fail)
  go_wp2_with fail
  go_ret
  refine ⟨?_, bdrewN (Below.refl _ _) _⟩
  rfl
structure ResB (g : Nat) (w : World) : Prop where
  c0 : w.cell? ⟨g, 0, none⟩ = some (.int .i64 0)
  c1 : w.cell? ⟨g, 1, none⟩ = some (.slice none 0 0)
  f0 : w.frozen? ⟨g, 0, none⟩ = false
  f1 : w.frozen? ⟨g, 1, none⟩ = false
theorem ResB.new (w : World) (t : TypeId) : ResB w.heap.size (w.alloc (.cells #[.int .i64 0, .slice none 0 0] t)) := ⟨by go_simp, by go_simp, by go_simp, by go_simp⟩
theorem ResB.on {g : Nat} {w w' : World} (h : ResB g w) (hb : Below w.heap.size w w') : ResB g w' :=
  ⟨cell_keep hb h.c0, cell_keep hb h.c1, (hb.frozen (p := ⟨g, 0, none⟩) (cell_lt h.c0)).trans h.f0, (hb.frozen (p := ⟨g, 1, none⟩) (cell_lt h.c1)).trans h.f1⟩
theorem ResB.new2 (w : World) (o : Obj) (t : TypeId) : ResB (w.heap.size + 1) ((w.alloc o).alloc (.cells #[.int .i64 0, .slice none 0 0] t)) := by
  have h := ResB.new (w.alloc o) t
  rw [show (w.alloc o).heap.size = w.heap.size + 1 by simp] at h
  exact h
/-- A slice of new memory was answered. -/
def Made (zs : List Int) (w : World) (r : Ending) (w' : World) : Prop := ∃ a len cap, r = .returned (.slice a len cap) ∧ OwnK .u8 w' w.heap.size (.slice a len cap) zs ∧ Below w.heap.size w w'
theorem own_lit {k : IntKind} (w : World) (zs : List Int) (n : Nat) (t : TypeId) {B : Nat} (hB : B ≤ w.heap.size) (hn : zs.length = n) (hm : n ≤ maxLen) :
    OwnK k (w.alloc (.cells (zs.map (Value.int k)).toArray t)) B (.slice (some ⟨w.heap.size, 0, none⟩) n n) zs := by
  subst hn
  have e1 : (w.alloc (.cells (zs.map (Value.int k)).toArray t)).heap[w.heap.size]? = some (.cells (zs.map (Value.int k)).toArray t) := (MapKept.heap_alloc w _).1
  refine ⟨by simp, .inr ⟨w.heap.size, _, rfl, hB, by simp, Nat.le_refl _, hm, fun j u hu => ?_, fun j hj => ?_⟩⟩
  · unfold World.cell?
    rw [e1]
    simpa using hu
  · unfold World.cell? World.frozen?
    rw [e1]
    simp [show j < zs.length by omega]
theorem blk_cell {w : World} {b : Nat} {cs : Array Value} {t : TypeId} (h : w.heap[b]? = some (.cells cs t)) (i : Nat) : w.cell? ⟨b, i, none⟩ = cs[i]? := by simp [World.cell?, h]
theorem blk_free {w : World} {b : Nat} {cs : Array Value} {t : TypeId} (h : w.heap[b]? = some (.cells cs t)) (i : Nat) : w.frozen? ⟨b, i, none⟩ = false := by simp [World.frozen?, h]
theorem blk_lt {w : World} {b : Nat} {o : Obj} (h : w.heap[b]? = some o) : b < w.heap.size := (Array.getElem?_eq_some_iff.1 h).1
theorem OwnK.put {k : IntKind} {w : World} {B g n c : Nat} {zs : List Int} {i : Nat} {m : Int} (h : OwnK k w B (.slice (some ⟨g, 0, none⟩) n c) zs) (hi : i < zs.length) : OwnK k (w.setCell ⟨g, i, none⟩ (.int k m)) B (.slice (some ⟨g, 0, none⟩) n c) (zs.set i m) := by
  unfold OwnK at *
  rcases h.2 with ⟨e, h0⟩ | ⟨g', c', e, hB, hg, hn, hm, hcell, hroom⟩
  · cases e
  injection e with e1 e2 e3
  injection e1 with e1
  injection e1 with e1 _ _
  subst e1
  subst e3
  refine ⟨by simp, .inr ⟨g, c, by rw [e2]; simp, hB, by simpa [World.setCell] using hg, by simpa using hn, hm, fun j u hu => ?_, fun j hj => ?_⟩⟩
  · have hj := (List.getElem?_eq_some_iff.1 hu).1
    simp at hj
    by_cases hji : j = i
    · subst hji
      obtain ⟨u0, hu0⟩ := Option.isSome_iff_exists.1 (hroom j (by omega)).1
      rw [World.cell?_setCell_same _ _ _ (by rw [hu0]), ← hu]
      simp [hj]
    · rw [World.cell?_setCell_other _ _ _ _ (fun e => by injection e with _ e2; omega)]
      refine hcell j u ?_
      rw [← hu]
      simp [show ¬ i = j by omega]
  · obtain ⟨q1, q2⟩ := hroom j hj
    refine ⟨?_, by rw [World.frozen?_setCell]; exact q2⟩
    obtain ⟨u0, hu0⟩ := Option.isSome_iff_exists.1 q1
    obtain ⟨v, hv⟩ := cell?_setCell_some (w := w) (p := ⟨g, i, none⟩) (x := .int k m) (q := ⟨g, j, none⟩) (v := u0) hu0
    rw [hv]; rfl
end Go.Proofs.YtcnpocppgghejaaGreatDoor
namespace Go.Proofs.YtcnpocppgghejaaGreatDoor
open Go.RowKit
set_option maxRecDepth 100000

/-- Block g begins with the cells cs, and they may be written. -/
structure At (g : Nat) (cs : List Value) (w : World) : Prop where
  cell : ∀ i v, cs[i]? = some v → w.cell? ⟨g, i, none⟩ = some v
  free : ∀ i v, cs[i]? = some v → w.frozen? ⟨g, i, none⟩ = false
section
variable {g : Nat} {cs : List Value} {w w' : World}
theorem At.new (w : World) (cs : List Value) (t : TypeId) : At w.heap.size cs (w.alloc (.cells cs.toArray t)) := by
  have e1 : (w.alloc (.cells cs.toArray t)).heap[w.heap.size]? = some (.cells cs.toArray t) := (MapKept.heap_alloc w _).1
  refine ⟨fun i v h => ?_, fun i v h => ?_⟩
  · unfold World.cell?
    rw [e1]
    simpa using h
  · unfold World.frozen?
    rw [e1]
    simp
theorem At.keep (h : At g cs w) (hk : g < w.heap.size → w'.heap[g]? = w.heap[g]?) : At g cs w' :=
  ⟨fun i v hi => (World.cell?_of_block (w := w) (a := ⟨g, i, none⟩) (hk (cell_lt (h.cell i v hi)))).trans (h.cell i v hi),
   fun i v hi => (World.frozen?_of_block (w := w) (a := ⟨g, i, none⟩) (hk (cell_lt (h.cell i v hi)))).trans (h.free i v hi)⟩
theorem At.on (h : At g cs w) (hb : Below w.heap.size w w') : At g cs w' := h.keep fun hg => hb.block g hg
theorem At.alloc (h : At g cs w) (o : Obj) : At g cs (w.alloc o) := h.on (bal (Below.refl _ _) o)
theorem At.kept {row : Option Nat} (h : At g cs w) (hg : w.grownBy w' row) (hne : some g ≠ row) : At g cs w' := h.keep fun hl => hg.block g hl hne
theorem At.setB (h : At g cs w) {p : Addr} (hp : g ≠ p.block) (u : Value) : At g cs (w.setCell p u) := h.keep fun _ => Below.heap_setCell w p u g hp
theorem At.set (h : At g cs w) (i : Nat) (u : Value) : At g (cs.set i u) (w.setCell ⟨g, i, none⟩ u) := by
  refine ⟨fun j v hj => ?_, fun j v hj => ?_⟩
  · by_cases e : i = j
    · subst e
      have hl : i < cs.length := by have := (List.getElem?_eq_some_iff.1 hj).1; simpa using this
      have hc := h.cell i cs[i] (by simp [hl])
      rw [World.cell?_setCell_same _ _ _ (by rw [hc])]
      simpa [hl] using hj
    · rw [World.cell?_setCell_other _ _ _ _ (fun e2 => by injection e2 with _ e3; omega)]
      exact h.cell j v (by simpa [e] using hj)
  · rw [World.frozen?_setCell]
    have hl : j < cs.length := by have := (List.getElem?_eq_some_iff.1 hj).1; simpa using this
    exact h.free j cs[j] (by simp [hl])
theorem At.lt (h : At g cs w) (hl : 0 < cs.length) : g < w.heap.size := cell_lt (h.cell 0 cs[0] (by simp [hl]))
end
/-- Below W, and block g holds the cells cs. -/
structure Hold (W : World) (g : Nat) (cs : List Value) (cur : World) : Prop where
  bel : Below W.heap.size W cur
  at' : At g cs cur
theorem Hold.on {W : World} {g : Nat} {cs : List Value} {cur cur' : World} (h : Hold W g cs cur) (hb : Below cur.heap.size cur cur') : Hold W g cs cur' := ⟨btr h.bel hb, h.at'.on hb⟩
theorem Hold.setB {W : World} {g : Nat} {cs : List Value} {cur : World} (h : Hold W g cs cur) {p : Addr} (hW : W.heap.size ≤ p.block) (hp : g ≠ p.block) (u : Value) : Hold W g cs (cur.setCell p u) := ⟨bset h.bel hW u, h.at'.setB hp u⟩

/-- What a cell holds it holds in each world that has kept it. -/
theorem bel_cell {W : World} {p : Addr} {v : Value} (h : W.cell? p = some v) : ∀ z : Of (Bel W), z.val.cell? p = some v := fun z => cell_keep z.prop.out h
theorem hold_cell {W : World} {g : Nat} {cs : List Value} (i : Nat) (v : Value) (h : cs[i]? = some v) : ∀ z : Of (Hold W g cs), z.val.cell? ⟨g, i, none⟩ = some v := fun z => z.prop.at'.cell i v h
theorem Bel.start (W : World) : Bel W W := ⟨Below.refl _ _⟩
/-- Bytes as a text. -/
def strOf (ns : List Int) : ByteArray := ns.foldl (fun r n => r.push (UInt8.ofNat n.toNat)) ByteArray.empty
theorem conv_row {B : Nat} {a : Option Addr} {len cap : Nat} {zs : List Int} {w : World} (hR : Row .u8 w B a len cap zs) :
    (convert 22 9 (.slice a len cap)).run Tryz.prog w = .ok (.string (strOf zs)) w := by
  rw [run_convert_bytes_string w 22 9 5 a len cap Tryz.underlying22 Tryz.underlying5 Tryz.underlying9]
  rcases Nat.eq_zero_or_pos len with h0 | h0
  · subst h0
    obtain rfl : zs = [] := List.eq_nil_of_length_eq_zero hR.length
    cases a with
    | none => rfl
    | some x => exact run_bytesToString w x 0 cap [] (run_loadCells_list w x [] (fun j v h => by simp at h))
  · obtain ⟨b, off, rfl, hb, hc⟩ := hR.cells h0
    refine run_bytesToString w _ len cap zs ?_
    have := run_loadCells_list (P := Tryz.prog) w ⟨b, off, none⟩ (zs.map (Value.int .u8)) (fun j v h => by
      have hj := (List.getElem?_eq_some_iff.1 h).1
      simp [hR.length] at hj
      rw [Addr.add_lit, hc j hj, ← h]
      simp [List.getD, show j < zs.length by rw [hR.length]; exact hj])
    simpa [hR.length] using this
theorem strOf_data : ∀ (zs : List Int) (s : ByteArray), (zs.foldl (fun r n => r.push (UInt8.ofNat n.toNat)) s).data.toList = s.data.toList ++ zs.map (fun n => UInt8.ofNat n.toNat)
  | [], s => by simp
  | z :: r, s => by
    rw [List.foldl_cons, strOf_data r]
    simp [ByteArray.push]
theorem byte_inj {x y : Int} (hx : M.byteB x) (hy : M.byteB y) (h : UInt8.ofNat x.toNat = UInt8.ofNat y.toNat) : x = y := by
  unfold M.byteB at hx hy
  have := congrArg UInt8.toNat h
  simp at this
  omega
theorem bytes_inj : ∀ {xs ys : List Int}, (∀ z ∈ xs, M.byteB z) → (∀ z ∈ ys, M.byteB z) → xs.map (fun n => UInt8.ofNat n.toNat) = ys.map (fun n => UInt8.ofNat n.toNat) → xs = ys
  | [], [], _, _, _ => rfl
  | [], _ :: _, _, _, h => by simp at h
  | _ :: _, [], _, _, h => by simp at h
  | x :: xs, y :: ys, hx, hy, h => by
    simp only [List.map_cons, List.cons.injEq] at h
    rw [byte_inj (hx x (by simp)) (hy y (by simp)) h.1, bytes_inj (fun z hz => hx z (by simp [hz])) (fun z hz => hy z (by simp [hz])) h.2]
/-- Two texts are one where their bytes are. -/
theorem strOf_inj {xs ys : List Int} (hx : ∀ z ∈ xs, M.byteB z) (hy : ∀ z ∈ ys, M.byteB z) (h : strOf xs = strOf ys) : xs = ys := by
  have := congrArg (fun s : ByteArray => s.data.toList) h
  simp only [strOf, strOf_data] at this
  exact bytes_inj hx hy (by simpa using this)
theorem strOf_beq {xs ys : List Int} (hx : ∀ z ∈ xs, M.byteB z) (hy : ∀ z ∈ ys, M.byteB z) : ((strOf xs).toList == (strOf ys).toList) = decide (xs = ys) := by
  by_cases h : xs = ys
  · subst h; simp
  · rw [decide_eq_false h, beq_eq_false_iff_ne, ByteArray.toList_eq, ByteArray.toList_eq]
    intro e
    simp only [strOf, strOf_data] at e
    exact h (bytes_inj hx hy (by simpa using e))
theorem u8_byte {z : Int} (h : (Lit.int .u8 z).wf = true) : M.byteB z := by
  simp [Lit.wf, IntKind.min, IntKind.max, IntKind.signed, IntKind.bits] at h
  unfold M.byteB
  omega
theorem Row.bytes {w : World} {B : Nat} {a : Option Addr} {len cap : Nat} {zs : List Int} (h : Row .u8 w B a len cap zs) : ∀ z ∈ zs, M.byteB z := fun z hz => u8_byte (h.wf z hz)

/-- A block that is known whole is a slice of the call's own. -/
theorem own_blk {k : IntKind} {w : World} {g B n : Nat} {zs : List Int} {t : TypeId} (hg : w.heap[g]? = some (.cells (zs.map (Value.int k)).toArray t)) (hB : B ≤ g) (hn : zs.length = n) (hm : n ≤ maxLen) : OwnK k w B (.slice (some ⟨g, 0, none⟩) n n) zs := by
  subst hn
  have hl : g < w.heap.size := (Array.getElem?_eq_some_iff.1 hg).1
  refine ⟨by simp, .inr ⟨g, _, rfl, hB, hl, Nat.le_refl _, hm, fun j u hu => ?_, fun j hj => ?_⟩⟩
  · unfold World.cell?
    rw [hg]
    simpa using hu
  · unfold World.cell? World.frozen?
    rw [hg]
    simp [show j < zs.length by omega]
/-- What is appended are the elements of a slice that is read. -/
theorem Row.src {P : Program} {k : IntKind} {w : World} {B : Nat} {a : Option Addr} {len cap : Nat} {zs : List Int} (h : Row k w B a len cap zs) {tx e' : TypeId} (hk : P.underlying tx = some (.slice e')) : Go.Src P 1 tx (.slice a len cap) len (zs.map (Value.int k)) w := by
  rcases Nat.eq_zero_or_pos len with h0 | h0
  · subst h0
    obtain rfl : zs = [] := List.eq_nil_of_length_eq_zero h.length
    cases a with
    | none => exact Src.ofNil w hk cap
    | some x => exact Src.ofSlice w hk x 0 cap [] rfl (fun j u hu => by simp at hu) (fun _ hu => by cases hu)
  · obtain ⟨b, off, rfl, hb, hc⟩ := h.cells h0
    refine Src.ofSlice w hk _ len cap _ (by simp [h.length]) (fun j u hu => ?_) (ints_oneCell k zs)
    have hj := (List.getElem?_eq_some_iff.1 hu).1
    simp [h.length] at hj
    rw [Addr.add_lit, hc j hj, ← hu]
    simp [List.getD, show j < zs.length by rw [h.length]; exact hj]
theorem Row.sub {k : IntKind} {w : World} {B b off len cap : Nat} {zs : List Int} (h : Row k w B (some ⟨b, off, none⟩) len cap zs) (i n' c' : Nat) (hi : i + n' ≤ len) (hn : n' ≤ c') (hc : c' ≤ maxLen) : Row k w B (some ⟨b, off + i, none⟩) n' c' ((zs.drop i).take n') :=
  ⟨by simp [h.length]; omega, fun z hz => h.wf z (List.mem_of_mem_drop (List.mem_of_mem_take hz)), hn, hc, fun hp => by
    obtain ⟨b', off', e, hb, hcell⟩ := h.cells (by omega)
    injection e with e
    injection e with e1 e2
    subst e1
    subst e2
    refine ⟨b, off + i, rfl, hb, fun j hj => ?_⟩
    rw [Nat.add_assoc, hcell (i + j) (by omega)]
    simp [List.getD, List.getElem?_drop, hj]⟩
end Go.Proofs.YtcnpocppgghejaaGreatDoor
namespace Go.Proofs.YtcnpocppgghejaaGreatDoor
open Go.RowKit Go.Shelf
set_option maxRecDepth 100000
set_option linter.unusedVariables false

theorem lower_extra : Builder.Extra Tryz.prog lays159_ren :=
  { sizeBuilder := by kernel_rfl, liesBuilder := by kernel_rfl, t5 := lays159.t5, a5 := lays159.a5, z5 := lays159.z5, v5 := lays159.v5, infoByte := by kernel_rfl, cellsByte := by kernel_rfl, sizeByte := by kernel_rfl, neB5 := by decide }
theorem toLower_any (s : ByteArray) (w : World) (hs : s.size ≤ 140737488355328) (ha : ∀ (j : Nat) (b : UInt8), s.data.toList[j]? = some b → b.toNat < 128) :
    Calls Tryz.prog 62 #[.string s] w fun e w' => e = .returned (.string ⟨(Lib.toLowerA s.data.toList).toArray⟩) ∧ Below w.heap.size w w' :=
  Any.strings_ToLower_ascii lays159 lower_extra s w hs ha
theorem trimSuffix_any (s p : ByteArray) (w : World) (hs : s.size ≤ 9223372036854775807) :
    Calls Tryz.prog 63 #[.string s, .string p] w fun e w' => e = .returned (.string ⟨(Lib.trimSuffix s.data.toList p.data.toList).toArray⟩) ∧ w' = w :=
  Any.strings_TrimSuffix lays102 s p w hs

theorem normalText_any (s : ByteArray) (w : World) (hs : s.size ≤ 20) (hm : M.mDot s.data.toList = true) :
    Calls Tryz.prog 33 #[.string s] w fun e w' => e = .returned (.string (M.bs (M.nrm s.data.toList))) ∧ Below w.heap.size w w' := by
  have hL : s.data.toList.length = s.size := by simp
  have T1 : ∀ w, Calls Tryz.prog 63 #[.string s, .string { data := #[46] }] w fun e w' => e = .returned (.string (M.bs (M.bare s.data.toList))) ∧ w = w' := fun w =>
    (trimSuffix_any s { data := #[46] } w (by omega)).mono fun e w' h => by
      obtain ⟨rfl, rfl⟩ := h
      refine ⟨?_, rfl⟩
      rw [← M.bare_trim hm]
      rfl
  have hbl := M.bare_length s.data.toList
  have T2 : ∀ w, Calls Tryz.prog 62 #[.string (M.bs (M.bare s.data.toList))] w fun e w' => e = .returned (.string (M.bs (M.nrm s.data.toList))) ∧ Below w.heap.size w w' := fun w =>
    (toLower_any (M.bs (M.bare s.data.toList)) w (by rw [M.bs_size]; omega) (by rw [M.bs_list]; exact M.bare_ascii hm)).mono fun e w' h => by
      obtain ⟨rfl, hb⟩ := h
      refine ⟨?_, hb⟩
      rw [M.bs_list]
      rfl
  generalize M.bs (M.nrm s.data.toList) = R at *
  generalize M.bs (M.bare s.data.toList) = B at *
  clear hm hbl hL
  go_enter Tryz.func33, Tryz.ntmps33
  go_wp2_with fail
  refine (T1 _).mono ?_
  rintro r w' ⟨rfl, rfl⟩
  go_wp2_with fail
  refine (T2 _).mono ?_
  rintro r w1 ⟨rfl, hb⟩
  go_wp2_with fail
  go_ret
  exact ⟨rfl, hb⟩
end Go.Proofs.YtcnpocppgghejaaGreatDoor
namespace Go.Proofs.YtcnpocppgghejaaGreatDoor.M

def lowI (z : Int) : Int := if 65 ≤ z ∧ z ≤ 90 then z + 32 else z
def lowK (zs : List Int) (k : Nat) : List Int := (zs.take k).map lowI ++ zs.drop k
theorem lowK_zero (zs : List Int) : lowK zs 0 = zs := by simp [lowK]
theorem lowK_length (zs : List Int) (k : Nat) : (lowK zs k).length = zs.length := by
  simp [lowK]; omega
theorem lowK_at (zs : List Int) (k : Nat) (z : Int) (h : zs[k]? = some z) : (lowK zs k)[k]? = some z := by
  have hk := (List.getElem?_eq_some_iff.1 h).1
  unfold lowK
  rw [List.getElem?_append_right (by simp; omega), List.length_map, List.length_take, Nat.min_eq_left (by omega), Nat.sub_self, List.getElem?_drop]
  simpa using h
theorem lowK_next (zs : List Int) (k : Nat) (z : Int) (h : zs[k]? = some z) : lowK zs (k + 1) = (lowK zs k).set k (lowI z) := by
  have hk := (List.getElem?_eq_some_iff.1 h).1
  unfold lowK
  rw [List.set_append_right _ _ (by simp; omega), List.length_map, List.length_take, Nat.min_eq_left (by omega), Nat.sub_self, List.take_add_one, h]
  have e : zs.drop k = z :: zs.drop (k + 1) := by rw [List.drop_eq_getElem_cons hk]; congr 1; rw [List.getElem?_eq_getElem hk] at h; exact Option.some.inj h
  rw [e]
  simp
theorem set_same {l : List Int} {k : Nat} {z : Int} (h : l[k]? = some z) : l.set k z = l := by
  obtain ⟨hk, e⟩ := List.getElem?_eq_some_iff.1 h
  rw [← e]
  exact List.set_getElem_self hk
theorem lowK_all (zs : List Int) : lowK zs zs.length = zs.map lowI := by simp [lowK]
theorem lowI_byte (b : UInt8) : lowI (b.toNat : Int) = ((Lib.lowerB b).toNat : Int) := by
  unfold lowI
  by_cases h : Lib.isUpperB b = true
  · rw [Lib.lowerB_int b h, if_pos]
    rw [Lib.isUpperB_int] at h
    simpa using h
  · have h' : Lib.isUpperB b = false := by simpa using h
    rw [Lib.lowerB_of_not b h', if_neg]
    rw [Lib.isUpperB_int] at h
    simpa using h
theorem low_text (l : List UInt8) : (textL (bs l)).map lowI = (Lib.toLowerA l).map fun b => (b.toNat : Int) := by
  unfold textL Lib.toLowerA
  rw [bs_list, List.map_map, List.map_map]
  exact List.map_congr_left fun b _ => lowI_byte b
/-- The text that is answered beside a code. -/
def nrmT (l : List UInt8) : List UInt8 := if nameF l = 0 then nrm l else []
theorem nrmT_yes {l : List UInt8} (h : nameF l = 0) : nrmT l = nrm l := by simp [nrmT, h]
theorem nrmT_no {l : List UInt8} (h : ¬ nameF l = 0) : nrmT l = [] := by simp [nrmT, h]
theorem normF_no {l : List UInt8} (h : ¬ nameF l = 0) : normF l = nameF l := by simp [normF, h]
theorem normF_form {l : List UInt8} (h : nameF l = 0) (hn : ¬ nrm l = l) : normF l = 1 := by simp [normF, h, hn]
theorem normF_yes {l : List UInt8} (h : nameF l = 0) (hn : nrm l = l) : normF l = 0 := by simp [normF, h, hn]
theorem tlsaF_norm {l : List UInt8} {u m v : Int} (h : ¬ normF l = 0) : tlsaF l u m v = normF l := by simp [tlsaF, h]
theorem tlsaF_no {l : List UInt8} {u m v : Int} (h : normF l = 0) (hb : tlsaB u m v = false) : tlsaF l u m v = 3 := by simp [tlsaF, h, hb]
theorem tlsaF_yes {l : List UInt8} {u m v : Int} (h : normF l = 0) (hb : tlsaB u m v = true) : tlsaF l u m v = 0 := by simp [tlsaF, h, hb]
def useB (u : Int) : Bool := decide (0 ≤ u ∧ u ≤ 3)
def matB (m : Int) : Bool := decide (0 ≤ m ∧ m ≤ 1)
theorem tlsaB_eq (u m v : Int) : tlsaB u m v = (useB u && matB m && sumB v) := rfl
/-- The number that a supplied key has for a public number. -/
def valM (p m : Int) : Int := if m = 1 then tagL spkiS [p] else p
/-- What TlsaFor answers; 'pb' tells whether the number is a public one. -/
def forC (l : List UInt8) (pb : Bool) (m : Int) : Int := if nameF l = 0 then (if pb && matB m then 0 else 3) else nameF l
def forN (l : List UInt8) (pb : Bool) (m : Int) : List UInt8 := if forC l pb m = 0 then nrm l else []
def forU (l : List UInt8) (pb : Bool) (m : Int) : Int := if forC l pb m = 0 then 3 else 0
def forM (l : List UInt8) (pb : Bool) (m : Int) : Int := if forC l pb m = 0 then m else 0
def forV (l : List UInt8) (pb : Bool) (p m : Int) : Int := if forC l pb m = 0 then valM p m else 0
theorem forC_name {l : List UInt8} {pb : Bool} {m : Int} (h : ¬ nameF l = 0) : forC l pb m = nameF l := by simp [forC, h]
theorem forC_no {l : List UInt8} {pb : Bool} {m : Int} (h : nameF l = 0) (hb : (pb && matB m) = false) : forC l pb m = 3 := by simp [forC, h, hb]
theorem forC_yes {l : List UInt8} {pb : Bool} {m : Int} (h : nameF l = 0) (hb : (pb && matB m) = true) : forC l pb m = 0 := by simp [forC, h, hb]
theorem forC_zero {l : List UInt8} {pb : Bool} {m : Int} (h : forC l pb m = 0) : nameF l = 0 ∧ pb = true ∧ matB m = true := by
  unfold forC at h
  split at h
  · rename_i h0
    split at h
    · rename_i h1
      simp only [Bool.and_eq_true] at h1
      exact ⟨h0, h1.1, h1.2⟩
    · omega
  · exact absurd h (by assumption)
theorem matB_cases {m : Int} (h : matB m = true) : m = 0 ∨ m = 1 := by
  simp only [matB, decide_eq_true_eq] at h
  omega
end Go.Proofs.YtcnpocppgghejaaGreatDoor.M
namespace Go.Proofs.YtcnpocppgghejaaGreatDoor
open Go.RowKit
set_option maxRecDepth 100000
set_option linter.unusedVariables false

theorem strOf_bytes (l : List UInt8) : strOf (l.map fun b => (b.toNat : Int)) = M.bs l := by
  have e : (strOf (l.map fun b => (b.toNat : Int))).data.toList = l := by
    rw [strOf, strOf_data]
    simp [List.map_map, Function.comp_def]
  rw [← M.bs_data (strOf _), e]

theorem OwnK.read {k : IntKind} {w : World} {B g n c : Nat} {zs : List Int} {j : Nat} {z : Int} (h : OwnK k w B (.slice (some ⟨g, 0, none⟩) n c) zs) (hz : zs[j]? = some z) : w.cell? ⟨g, j, none⟩ = some (.int k z) ∧ w.frozen? ⟨g, j, none⟩ = false := by
  have hj := (List.getElem?_eq_some_iff.1 hz).1
  rcases h.2 with ⟨e, h0⟩ | ⟨g', c', e, hB, hg, hn, hm, hcell, hroom⟩
  · cases e
  injection e with e1 e2 e3
  injection e1 with e1
  injection e1 with e1 _ _
  subst e1
  exact ⟨hcell j _ (by rw [List.getElem?_map, hz]; rfl), (hroom j (by omega)).2⟩

structure LowRel (W : World) (g n c : Nat) (zs : List Int) (k : Nat) (wr : World) : Prop where
  own : OwnK .u8 wr W.heap.size (.slice (some ⟨g, 0, none⟩) n c) (M.lowK zs k)
  bel : Below W.heap.size W wr

theorem LowRel.up {W : World} {g n c : Nat} {zs : List Int} {k : Nat} {wr : World} {z : Int} (h : LowRel W g n c zs k wr) (hg : W.heap.size ≤ g) (hz : zs[k]? = some z) (h0 : 65 ≤ z) (h1 : z ≤ 90) : LowRel W g n c zs (k + 1) (wr.setCell ⟨g, k, none⟩ (.int .u8 (z + 32))) := by
  have hk := (List.getElem?_eq_some_iff.1 hz).1
  have e : M.lowI z = z + 32 := by simp [M.lowI, h0, h1]
  refine ⟨?_, bset h.bel hg _⟩
  rw [M.lowK_next zs k z hz, e]
  exact h.own.put (by rw [M.lowK_length]; exact hk)
theorem LowRel.no {W : World} {g n c : Nat} {zs : List Int} {k : Nat} {wr : World} {z : Int} (h : LowRel W g n c zs k wr) (hz : zs[k]? = some z) (h0 : ¬ (65 ≤ z ∧ z ≤ 90)) : LowRel W g n c zs (k + 1) wr := by
  have e : M.lowI z = z := by simp [M.lowI, h0]
  refine ⟨?_, h.bel⟩
  rw [M.lowK_next zs k z hz, e, M.set_same (M.lowK_at zs k z hz)]
  exact h.own

theorem l5Normal_any (s : ByteArray) (w : World) (hs : s.size ≤ 20) :
    Calls Tryz.prog 42 #[.string s] w fun e w' => e = .returned (.string (M.bs (M.nrm s.data.toList))) ∧ Below w.heap.size w w' := by
  have hL : s.data.toList.length = s.size := by simp
  have hbl := M.bare_length s.data.toList
  have F := fun w => l5Bare_any s w (by simp only [maxLen]; omega)
  have HE := Lib.hid (show strOf ((M.textL (M.bs (M.bare s.data.toList))).map M.lowI) = M.bs (M.nrm s.data.toList) by rw [M.low_text, strOf_bytes]; rfl)
  have hB : (M.bs (M.bare s.data.toList)).size ≤ 20 := by rw [M.bs_size]; omega
  generalize M.bs (M.nrm s.data.toList) = R at *
  generalize M.bs (M.bare s.data.toList) = B at *
  have hBm : B.size ≤ maxLen := by simp only [maxLen]; omega
  have hcv := fun (W : World) => run_bytes_of_string (P := Tryz.prog) W 9 22 5 B Tryz.underlying9 Tryz.underlying22 Tryz.underlying5
  have O0 := own_text w B 5 hBm
  have hzl : (M.textL B).length = B.size := M.textL_length B
  have HZ : Hid (∀ z ∈ M.textL B, 0 ≤ z ∧ z ≤ 255) := Lib.hid (fun z hz => by
    unfold M.textL at hz
    obtain ⟨b, _, rfl⟩ := List.mem_map.1 hz
    have := b.toNat_lt
    omega)
  have hcm := grownCap_le_maxLen w B.size 0 5 hBm
  have hcg := grownCap_ge w B.size 0 5
  unfold maxLen at hcm
  clear hbl
  go_enter Tryz.func42, Tryz.ntmps42
  go_wp2_with fail
  refine (F _).mono ?_
  rintro r w' ⟨rfl, rfl⟩
  have T0 : LowRel w w.heap.size B.size (grownCap w B.size 0 5) (M.textL B) 0 (w.alloc (textObj w B 5)).drew := ⟨by
    unfold OwnK
    rw [M.lowK_zero, hzl]
    exact O0.drew, (bal (Below.refl _ _) _).drew⟩
  clear O0
  go_wp2_with fail
  clear hcv
  go_loopw [4] (fun i wr => ∃ k : Nat, k ≤ B.size ∧ i = .int .i64 k ∧ LowRel w w.heap.size B.size (grownCap w B.size 0 5) (M.textL B) k wr) (fun i _ => B.size - (intOf i).toNat)
  case atStart => exact ⟨0, Nat.zero_le _, rfl, T0⟩
  case round =>
    obtain ⟨k, hk, rfl, hT⟩ := hrel
    by_cases hlt : k < B.size
    · obtain ⟨z, hz⟩ : ∃ z, (M.textL B)[k]? = some z := ⟨(M.textL B)[k], by simp [hzl, hlt]⟩
      obtain ⟨z0, z1⟩ := HZ.out z (List.mem_of_getElem? hz)
      obtain ⟨hcell, hfr⟩ := hT.own.read (M.lowK_at _ k z hz)
      by_cases h0 : 65 ≤ z
      · by_cases h1 : z ≤ 90
        · have T2 := hT.up (Nat.le_refl _) hz h0 h1
          clear hT hz
          go_wp2_with fail
          go_roundw
          case rel => exact ⟨k + 1, by omega, by go_num, T2⟩
          case measure => simp [intOf]; omega
        · have T2 := hT.no hz (by omega)
          clear hT hz
          go_wp2_with fail
          go_roundw
          case rel => exact ⟨k + 1, by omega, by go_num, T2⟩
          case measure => simp [intOf]; omega
      · have T2 := hT.no hz (by omega)
        clear hT hz
        go_wp2_with fail
        go_roundw
        case rel => exact ⟨k + 1, by omega, by go_num, T2⟩
        case measure => simp [intOf]; omega
    · obtain rfl : k = B.size := by omega
      have hO := hT.own
      rw [show M.lowK (M.textL B) B.size = (M.textL B).map M.lowI by rw [← hzl, M.lowK_all]] at hO
      have kr := conv_row (Own.row hO (fun z hz => by
        obtain ⟨y, hy, rfl⟩ := List.mem_map.1 hz
        have := HZ.out y hy
        unfold M.lowI
        split <;> (simp [Lit.wf, IntKind.min, IntKind.max, IntKind.signed, IntKind.bits]; omega)))
      rw [HE.out] at kr
      have hb := hT.bel
      clear hT hO
      go_wp2_with fail
      go_ret
      exact ⟨rfl, hb⟩
end Go.Proofs.YtcnpocppgghejaaGreatDoor
namespace Go.Proofs.YtcnpocppgghejaaGreatDoor
open Go.RowKit
set_option maxRecDepth 100000
set_option linter.unusedVariables false

theorem text_beq (x y : ByteArray) : (x.toList == y.toList) = decide (x.data.toList = y.data.toList) := by
  rw [ByteArray.toList_eq, ByteArray.toList_eq, Bool.eq_iff_iff]
  simp
theorem size_max {s : ByteArray} (h : s.size ≤ 20) : s.size ≤ maxLen := by simp only [maxLen]; omega
abbrev X2 (c : Int) (t : ByteArray) : Value := .agg #[.int .i64 c, .string t]

end Go.Proofs.YtcnpocppgghejaaGreatDoor
namespace Go.Proofs.YtcnpocppgghejaaGreatDoor
open Go.RowKit
set_option maxRecDepth 100000
set_option linter.unusedVariables false

theorem implNormalFault_any (s : ByteArray) (w : World) (hs : s.size ≤ maxLen) :
    Calls Tryz.prog 50 #[.string s] w fun e w' => e = .returned (.int .i64 (M.normF s.data.toList)) ∧ Below w.heap.size w w' := by
  have hL : s.data.toList.length = s.size := by simp
  have F := fun w => implNameFault_any s w hs
  by_cases h0 : M.nameF s.data.toList = 0
  · obtain ⟨h20, hm⟩ := M.nameF_zero h0
    rw [hL] at h20
    have N := fun w : World => normalText_any s w h20 hm
    have Q := text_beq (M.bs (M.nrm s.data.toList)) s
    rw [M.bs_list] at Q
    by_cases hn : M.nrm s.data.toList = s.data.toList
    · rw [M.normF_yes h0 hn]
      rw [decide_eq_true hn] at Q
      simp only [h0] at F
      generalize M.bs (M.nrm s.data.toList) = R at *
      clear h0 hm hn hL
      go_enter Tryz.func50, Tryz.ntmps50
      go_wp2_with fail
      refine (F _).mono ?_
      rintro r w' ⟨rfl, rfl⟩
      go_wp2_with fail
      refine (N _).mono ?_
      rintro r u1 ⟨rfl, b1⟩
      go_wp2_with fail
      go_ret
      exact ⟨rfl, b1⟩
    · rw [M.normF_form h0 hn]
      rw [decide_eq_false hn] at Q
      simp only [h0] at F
      generalize M.bs (M.nrm s.data.toList) = R at *
      clear h0 hm hn hL
      go_enter Tryz.func50, Tryz.ntmps50
      go_wp2_with fail
      refine (F _).mono ?_
      rintro r w' ⟨rfl, rfl⟩
      go_wp2_with fail
      refine (N _).mono ?_
      rintro r u1 ⟨rfl, b1⟩
      go_wp2_with fail
      go_ret
      exact ⟨rfl, b1⟩
  · rw [M.normF_no h0]
    generalize M.nameF s.data.toList = c at *
    go_enter Tryz.func50, Tryz.ntmps50
    go_wp2_with fail
    refine (F _).mono ?_
    rintro r w' ⟨rfl, rfl⟩
    go_wp2_with fail
    go_ret
    exact ⟨rfl, Below.refl _ _⟩
theorem l1In_use (v : Int) (w : World) : Calls Tryz.prog 70 #[.int .i64 v, .int .i64 0, .int .i64 3] w fun e w' => e = .returned (.bool (M.useB v)) ∧ w = w' := l1In_any v 0 3 w
theorem l1In_mat (v : Int) (w : World) : Calls Tryz.prog 70 #[.int .i64 v, .int .i64 0, .int .i64 1] w fun e w' => e = .returned (.bool (M.matB v)) ∧ w = w' := l1In_any v 0 1 w

abbrev T4 (n : ByteArray) (u m v : Int) : Value := .agg #[.string n, .int .i64 u, .int .i64 m, .int .i64 v]
abbrev T5 (c : Int) (n : ByteArray) (u m v : Int) : Value := .agg #[.int .i64 c, .string n, .int .i64 u, .int .i64 m, .int .i64 v]
abbrev TL4 (n : ByteArray) (u m v : Int) : List Value := [.string n, .int .i64 u, .int .i64 m, .int .i64 v]
abbrev TL5 (c : Int) (n : ByteArray) (u m v : Int) : List Value := [.int .i64 c, .string n, .int .i64 u, .int .i64 m, .int .i64 v]

end Go.Proofs.YtcnpocppgghejaaGreatDoor
namespace Go.Proofs.YtcnpocppgghejaaGreatDoor
open Go.RowKit

def pubB (v : Int) : Bool := inB v 2 2878 && (M.pw v 1439 2879 == 1)
def keyR (s : Int) : Int × Int × Int := if inB s 1 1438 then (0, s, M.pw 4 s.toNat 2879) else (3, 0, 0)
def sharedR (s p : Int) : Int × Int := if inB s 1 1438 && pubB p then (0, M.pw p s.toNat 2879) else (3, 0)
def invR (v : Int) : Int × Int := if inB v 1 2878 then (0, M.pw v 2877 2879) else (3, 0)
abbrev I3 (c u v : Int) : Value := .agg #[.int .i64 c, .int .i64 u, .int .i64 v]

theorem l1Public_any (v : Int) (w : World) :
    Calls Tryz.prog 69 #[.int .i64 v] w fun r w' => r = .returned (.bool (pubB v)) ∧ w = w' := by
  cases hV : inB v 2 2878
  · have E : pubB v = false := by simp [pubB, hV]
    rw [E]; clear E
    go_enter Tryz.func69, Tryz.ntmps69
    go_wp2_with fail
    refine (l1In_any _ _ _ _).mono ?_
    rintro r w' ⟨rfl, rfl⟩
    go_wp2_with fail
    go_ret
    simp
  have hV' := hV
  simp only [inB, decide_eq_true_eq] at hV'
  obtain ⟨v0, v1⟩ := hV'
  cases hP : (M.pw v 1439 2879 == 1)
  · have E : pubB v = false := by simp only [pubB, hP, Bool.and_false]
    rw [E]; clear E
    go_enter Tryz.func69, Tryz.ntmps69
    go_wp2_with fail
    refine (l1In_any _ _ _ _).mono ?_
    rintro r w' ⟨rfl, rfl⟩
    go_wp2_with fail
    refine (l1Raise_int _ _ _ (by omega) (by omega) (by omega) (by omega)).mono ?_
    rintro r w' ⟨rfl, rfl⟩
    go_wp2_with fail
    go_ret
    simp
  have E : pubB v = true := by simp only [pubB, hV, hP, Bool.and_true]
  rw [E]; clear E
  go_enter Tryz.func69, Tryz.ntmps69
  go_wp2_with fail
  refine (l1In_any _ _ _ _).mono ?_
  rintro r w' ⟨rfl, rfl⟩
  go_wp2_with fail
  refine (l1Raise_int _ _ _ (by omega) (by omega) (by omega) (by omega)).mono ?_
  rintro r w' ⟨rfl, rfl⟩
  go_wp2_with fail
  go_ret
  simp

theorem implIsPublic_any (v : Int) (w : World) :
    Calls Tryz.prog 51 #[.int .i64 v] w fun r w' => r = .returned (.bool (pubB v)) ∧ Below w.heap.size w w' := by
  by_cases h0 : 2 ≤ v
  · by_cases h1 : v ≤ 2878
    · cases hP : (M.pw v 1439 2879 == 1)
      · have E : pubB v = false := by simp only [pubB, hP, Bool.and_false]
        rw [E]; clear E
        go_enter Tryz.func51, Tryz.ntmps51
        go_wp2_with fail
        refine (power_int _ _ _ _ (by omega) (by omega) (by omega) (by omega) (by omega) (by omega)).mono ?_
        rintro r w1 ⟨rfl, hb_w1⟩
        obtain ⟨hc_w1, hf_w1⟩ := bcell hb_w1
        have hz_w1 := hb_w1.size
        (try simp at hz_w1)
        go_wp2_with fail
        go_ret
        exact ⟨rfl, hb_w1⟩
      · have E : pubB v = true := by simp only [pubB, inB, h0, h1, hP, Bool.and_true, and_self, decide_true]
        rw [E]; clear E
        go_enter Tryz.func51, Tryz.ntmps51
        go_wp2_with fail
        refine (power_int _ _ _ _ (by omega) (by omega) (by omega) (by omega) (by omega) (by omega)).mono ?_
        rintro r w1 ⟨rfl, hb_w1⟩
        obtain ⟨hc_w1, hf_w1⟩ := bcell hb_w1
        have hz_w1 := hb_w1.size
        (try simp at hz_w1)
        go_wp2_with fail
        go_ret
        exact ⟨rfl, hb_w1⟩
    · have E : pubB v = false := by simp [pubB, inB, h1]
      rw [E]; clear E
      go_enter Tryz.func51, Tryz.ntmps51
      go_wp2_with fail
      go_ret
      exact ⟨rfl, Below.refl _ _⟩
  · have E : pubB v = false := by simp [pubB, inB, h0]
    rw [E]; clear E
    go_enter Tryz.func51, Tryz.ntmps51
    go_wp2_with fail
    go_ret
    exact ⟨rfl, Below.refl _ _⟩

theorem l1Key_any (s : Int) (w : World) (s0 : 0 ≤ s) (s1 : s ≤ 1000000000) :
    Calls Tryz.prog 85 #[.int .i64 s] w fun r w' => r = .returned (I2 s (M.pw 4 s.toNat 2879)) ∧ Below w.heap.size w w' := by
  go_enter Tryz.func85, Tryz.ntmps85
  go_wp2_with fail
  refine (l1Raise_int _ _ _ (by omega) (by omega) (by omega) (by omega)).mono ?_
  rintro r w' ⟨rfl, rfl⟩
  go_wp2_with fail
  exact bodyPost_ret (v := I2 s (M.pw 4 s.toNat 2879)) (by simp [results, Tryz.results85, go_sem]) rfl ⟨rfl, bal (Below.refl _ _) _⟩

theorem pubB_bd {p : Int} (h : pubB p = true) : 2 ≤ p ∧ p ≤ 2878 := by
  simp only [pubB, inB, Bool.and_eq_true, decide_eq_true_eq] at h; exact h.1

end Go.Proofs.YtcnpocppgghejaaGreatDoor
namespace Go.Proofs.YtcnpocppgghejaaGreatDoor
open Go.RowKit
set_option maxRecDepth 100000
set_option linter.unusedVariables false

theorem pub_sum {p : Int} (h : pubB p = true) : M.sumB p = true := by
  simp only [pubB, inB, Bool.and_eq_true, decide_eq_true_eq] at h
  simp only [M.sumB, decide_eq_true_eq]
  omega
abbrev forT (l : List UInt8) (p m : Int) : Value := T5 (M.forC l (pubB p) m) (M.bs (M.forN l (pubB p) m)) (M.forU l (pubB p) m) (M.forM l (pubB p) m) (M.forV l (pubB p) p m)
theorem forT_no {l : List UInt8} {p m : Int} (h : ¬ M.forC l (pubB p) m = 0) : forT l p m = T5 (M.forC l (pubB p) m) { data := #[] } 0 0 0 := by
  simp [forT, M.forN, M.forU, M.forM, M.forV, h, M.bs]
theorem forT_yes {l : List UInt8} {p m : Int} (h : M.forC l (pubB p) m = 0) : forT l p m = T5 0 (M.bs (M.nrm l)) 3 m (M.valM p m) := by
  simp [forT, M.forN, M.forU, M.forM, M.forV, h]

end Go.Proofs.YtcnpocppgghejaaGreatDoor
namespace Go.Proofs.YtcnpocppgghejaaGreatDoor.M

theorem strip_again : ∀ (n : Nat) (r : List UInt8), r.length ≤ n →
    (mPlain r = true → strip (strip r) = strip r ∧ mPlain (strip r) = true) ∧ (mDash r = true → strip (strip r) = strip r ∧ mDash (strip r) = true) ∧ (mDot r = true → strip (strip r) = strip r ∧ mDot (strip r) = true)
  | n, [], _ => by simp [strip, mPlain, mDash, mDot]
  | 0, b :: r, h => by simp at h
  | n + 1, b :: r, hl => by
    obtain ⟨hP, hD, hS⟩ := strip_again n r (by simpa using hl)
    have plain : plainB b = true → mPlain r = true → strip (strip (b :: r)) = strip (b :: r) ∧ strip (b :: r) = b :: strip r ∧ mPlain (strip r) = true := fun hb h => by
      have e := strip_cons (r := r) (.inl (plain_dot hb))
      refine ⟨?_, e, (hP h).2⟩
      rw [e, strip_cons (.inl (plain_dot hb)), (hP h).1]
    have dash : dashB b = true → mDash r = true → strip (strip (b :: r)) = strip (b :: r) ∧ strip (b :: r) = b :: strip r ∧ mDash (strip r) = true := fun hb h => by
      have e := strip_cons (r := r) (.inl (dash_dot hb))
      refine ⟨?_, e, (hD h).2⟩
      rw [e, strip_cons (.inl (dash_dot hb)), (hD h).1]
    refine ⟨fun h => ?_, fun h => ?_, fun h => ?_⟩
    · rw [mPlain] at h
      split at h
      · rename_i hb
        obtain ⟨h1, h2, h3⟩ := plain hb h
        exact ⟨h1, by rw [h2, mPlain, if_pos hb]; exact h3⟩
      split at h
      · rename_i hb0 hb
        obtain ⟨h1, h2, h3⟩ := dash hb h
        exact ⟨h1, by rw [h2, mPlain, if_neg hb0, if_pos hb]; exact h3⟩
      split at h
      · rename_i hb0 hb1 hb
        split at h
        · rename_i hn
          rw [strip, if_pos ⟨hb, hn⟩]
          simp [strip, mPlain]
        · rename_i hn
          obtain ⟨h1, h2⟩ := hS h
          have hne : strip r ≠ [] := fun e => by rw [e, mDot] at h2; cases h2
          rw [strip_cons (.inr hn)]
          refine ⟨by rw [strip_cons (.inr hne), h1], ?_⟩
          rw [mPlain, if_neg hb0, if_neg hb1, if_pos hb, if_neg hne]
          exact h2
      · cases h
    · rw [mDash] at h
      split at h
      · rename_i hb
        obtain ⟨h1, h2, h3⟩ := plain hb h
        exact ⟨h1, by rw [h2, mDash, if_pos hb]; exact h3⟩
      split at h
      · rename_i hb0 hb
        obtain ⟨h1, h2, h3⟩ := dash hb h
        exact ⟨h1, by rw [h2, mDash, if_neg hb0, if_pos hb]; exact h3⟩
      · cases h
    · rw [mDot] at h
      split at h
      · rename_i hb
        obtain ⟨h1, h2, h3⟩ := plain hb h
        exact ⟨h1, by rw [h2, mDot, if_pos hb]; exact h3⟩
      · cases h
theorem bare_strip {l : List UInt8} (h : mDot l = true) : bare l = strip l := by
  cases l with
  | nil => simp [mDot] at h
  | cons b r =>
    rw [mDot] at h
    split at h
    · rename_i hb
      rw [strip_cons (.inl (plain_dot hb))]
      rfl
    · cases h
theorem bare_again {l : List UInt8} (h : mDot l = true) : bare (bare l) = bare l ∧ mDot (bare l) = true := by
  obtain ⟨h1, h2⟩ := (strip_again _ l (Nat.le_refl _)).2.2 h
  rw [bare_strip h]
  exact ⟨by rw [bare_strip h2, h1], h2⟩
theorem low_byte (b : UInt8) : plainB (Lib.lowerB b) = plainB b ∧ dashB (Lib.lowerB b) = dashB b ∧ dotB (Lib.lowerB b) = dotB b ∧ Lib.lowerB (Lib.lowerB b) = Lib.lowerB b := by
  have h : ∀ n : Fin 256, plainB (Lib.lowerB (UInt8.ofNat n)) = plainB (UInt8.ofNat n) ∧ dashB (Lib.lowerB (UInt8.ofNat n)) = dashB (UInt8.ofNat n) ∧ dotB (Lib.lowerB (UInt8.ofNat n)) = dotB (UInt8.ofNat n) ∧ Lib.lowerB (Lib.lowerB (UInt8.ofNat n)) = Lib.lowerB (UInt8.ofNat n) := by decide +kernel
  have := h ⟨b.toNat, b.toNat_lt⟩
  simpa using this
theorem low_strip : ∀ r : List UInt8, strip (r.map Lib.lowerB) = (strip r).map Lib.lowerB
  | [] => rfl
  | b :: r => by
    rw [List.map_cons, strip, strip, (low_byte b).2.2.1]
    by_cases h : dotB b = true ∧ r = []
    · rw [if_pos h, if_pos ⟨h.1, by rw [h.2]; rfl⟩]; rfl
    · rw [if_neg h, if_neg (fun e => h ⟨e.1, by simpa using e.2⟩), low_strip r]; rfl
theorem low_bare (l : List UInt8) : bare (l.map Lib.lowerB) = (bare l).map Lib.lowerB := by
  cases l with
  | nil => rfl
  | cons b r => rw [List.map_cons, bare, low_strip]; rfl
theorem low_machine : ∀ (n : Nat) (r : List UInt8), r.length ≤ n → mPlain (r.map Lib.lowerB) = mPlain r ∧ mDash (r.map Lib.lowerB) = mDash r ∧ mDot (r.map Lib.lowerB) = mDot r
  | n, [], _ => ⟨rfl, rfl, rfl⟩
  | 0, b :: r, h => by simp at h
  | n + 1, b :: r, hl => by
    obtain ⟨hP, hD, hS⟩ := low_machine n r (by simpa using hl)
    obtain ⟨q1, q2, q3, _⟩ := low_byte b
    refine ⟨?_, ?_, ?_⟩
    · rw [List.map_cons, mPlain, mPlain, q1, q2, q3, hP, hD, hS]
      simp
    · rw [List.map_cons, mDash, mDash, q1, q2, hP, hD]
    · rw [List.map_cons, mDot, mDot, q1, hP]
/-- A normal name is a name, and its own normal form. -/
theorem normF_nrm {l : List UInt8} (h : nameF l = 0) : normF (nrm l) = 0 := by
  obtain ⟨h20, hm⟩ := nameF_zero h
  obtain ⟨h1, h2⟩ := bare_again hm
  have hl := nrm_length l
  have e1 : mDot (nrm l) = true := by
    unfold nrm Lib.toLowerA
    rw [(low_machine _ _ (Nat.le_refl _)).2.2, h2]
  refine normF_yes (nameF_yes (by omega) e1) ?_
  show ((bare ((bare l).map Lib.lowerB)).map Lib.lowerB) = (bare l).map Lib.lowerB
  rw [low_bare, h1, List.map_map]
  exact List.map_congr_left fun b _ => (low_byte b).2.2.2
theorem valM_sum {p m : Int} (hp : sumB p = true) : sumB (valM p m) = true := by
  unfold valM
  split
  · obtain ⟨h0, h1⟩ := tagL_bd spkiS [p]
    simp only [sumB, decide_eq_true_eq]
    omega
  · exact hp
/-- What a supplied key (n, u, m, v) says of a name and a number. -/
def matchB (n : List UInt8) (u m v : Int) (l : List UInt8) (pb : Bool) (p : Int) : Bool :=
  decide (tlsaF n u m v = 0) && decide (nameF l = 0) && pb && decide (u = 3) && decide (n = nrm l) && decide (v = valM p m)
theorem matchB_for {n : List UInt8} {u m v : Int} {l : List UInt8} {pb : Bool} {p : Int} (hs : pb = true → sumB p = true) :
    matchB n u m v l pb p = (decide (forC l pb m = 0) && (decide (nrm l = n) && decide (3 = u) && decide (valM p m = v))) := by
  rw [Bool.eq_iff_iff]
  simp only [matchB, Bool.and_eq_true, decide_eq_true_eq]
  constructor
  · rintro ⟨⟨⟨⟨⟨h1, h2⟩, h3⟩, h4⟩, h5⟩, h6⟩
    obtain ⟨_, hb⟩ := tlsaF_zero h1
    rw [tlsaB_eq] at hb
    simp only [Bool.and_eq_true] at hb
    exact ⟨forC_yes h2 (by rw [h3, hb.1.2]; rfl), ⟨h5.symm, h4.symm⟩, h6.symm⟩
  · rintro ⟨h1, ⟨h2, h3⟩, h4⟩
    obtain ⟨k1, k2, k3⟩ := forC_zero h1
    subst h2
    subst h3
    subst h4
    refine ⟨⟨⟨⟨⟨tlsaF_yes (normF_nrm k1) ?_, k1⟩, k2⟩, rfl⟩, rfl⟩, rfl⟩
    rw [tlsaB_eq, k3, valM_sum (hs k2)]
    rfl
theorem normF_cases (l : List UInt8) : normF l = 0 ∨ normF l = 1 ∨ normF l = 2 ∨ normF l = 5 := by
  rcases nameF_cases l with h | h | h
  · exact .inr (.inr (.inl (by rw [normF_no (by rw [h]; omega), h])))
  · exact .inr (.inr (.inr (by rw [normF_no (by rw [h]; omega), h])))
  · by_cases hn : nrm l = l
    · exact .inl (normF_yes h hn)
    · exact .inr (.inl (normF_form h hn))
theorem tlsaF_cases (l : List UInt8) (u m v : Int) : tlsaF l u m v = 0 ∨ tlsaF l u m v = 1 ∨ tlsaF l u m v = 2 ∨ tlsaF l u m v = 3 ∨ tlsaF l u m v = 5 := by
  rcases normF_cases l with h | h | h | h
  · cases hb : tlsaB u m v
    · exact .inr (.inr (.inr (.inl (tlsaF_no h hb))))
    · exact .inl (tlsaF_yes h hb)
  · exact .inr (.inl (by rw [tlsaF_norm (by rw [h]; omega), h]))
  · exact .inr (.inr (.inl (by rw [tlsaF_norm (by rw [h]; omega), h])))
  · exact .inr (.inr (.inr (.inr (by rw [tlsaF_norm (by rw [h]; omega), h]))))
theorem tlsaF_parts {l : List UInt8} {u m v : Int} (h : tlsaF l u m v = 0) : useB u = true ∧ matB m = true ∧ sumB v = true := by
  obtain ⟨_, hb⟩ := tlsaF_zero h
  rw [tlsaB_eq] at hb
  simp only [Bool.and_eq_true] at hb
  exact ⟨hb.1.1, hb.1.2, hb.2⟩
theorem tlsaF_use {l : List UInt8} {u m v : Int} (h : tlsaF l u m v = 0) : u = 0 ∨ u = 1 ∨ u = 2 ∨ u = 3 := by
  have := (tlsaF_parts h).1
  simp only [useB, decide_eq_true_eq] at this
  omega
theorem tlsaF_sum {l : List UInt8} {u m v : Int} (h : tlsaF l u m v = 0) : sumB v = true := (tlsaF_parts h).2.2
end Go.Proofs.YtcnpocppgghejaaGreatDoor.M
namespace Go.Proofs.YtcnpocppgghejaaGreatDoor
open Go.RowKit
set_option maxRecDepth 100000
set_option linter.unusedVariables false

/-- The bytes ahead of a supplied key's name. -/
def headT (u m v : Int) : List Int := [u, m] ++ M.two v
theorem headT_length (u m v : Int) : (headT u m v).length = 4 := rfl
def HeadT (V : World) (zs : List Int) (v : Value) (wx : World) : Prop := OwnK .u8 wx V.heap.size v zs ∧ Below V.heap.size V wx
/-- The bytes of a supplied key. -/
def packT (n : ByteArray) (u m v : Int) : List Int := headT u m v ++ M.textL n
def packTL (n : ByteArray) (u m v : Int) : List Int := if M.tlsaF n.data.toList u m v = 0 then packT n u m v else []
theorem tlsa_bounds {n : ByteArray} {u m v : Int} (h : M.tlsaF n.data.toList u m v = 0) : n.size ≤ 20 ∧ 0 ≤ u ∧ u ≤ 3 ∧ 0 ≤ m ∧ m ≤ 1 ∧ M.sumB v = true := by
  obtain ⟨h1, h2, h3⟩ := M.tlsaF_parts h
  have h4 := (M.nameF_zero (M.normF_zero (M.tlsaF_zero h).1).1).1
  have hL : n.data.toList.length = n.size := by simp
  simp only [M.useB, M.matB, decide_eq_true_eq] at h1 h2
  exact ⟨by omega, h1.1, h1.2, h2.1, h2.2, h3⟩
theorem text_src (w : World) (s : ByteArray) (hs : s.size ≤ maxLen) :
    Go.Src Tryz.prog 1 22 (.slice (some ⟨w.heap.size, 0, none⟩) s.size (grownCap w s.size 0 5)) s.size ((M.textL s).map (Value.int .u8)) (w.alloc (textObj w s 5)).drew := by
  have R := Own.row (own_text w s 5 hs) (fun z hz => byte_wf (M.textL_byte s z hz))
  have R2 : Row .u8 (w.alloc (textObj w s 5)).drew (w.alloc (textObj w s 5)).heap.size (some ⟨w.heap.size, 0, none⟩) s.size (grownCap w s.size 0 5) (M.textL s) := R.keep (fun _ _ => rfl)
  exact R2.src Tryz.underlying22

end Go.Proofs.YtcnpocppgghejaaGreatDoor
namespace Go.Proofs.YtcnpocppgghejaaGreatDoor
open Go.RowKit

/-- Block g is a source of draws over the slice (a, len, cap), read up to place p. -/
def Src (w : World) (g : Nat) (a : Option Addr) (len cap : Nat) (p : Nat) : Prop := w.heap[g]? = some (.cells #[.slice a len cap, .int .i64 p] 75 (0, 0))
theorem Src.lt {w : World} {g : Nat} {a : Option Addr} {len cap p : Nat} (h : Src w g a len cap p) : g < w.heap.size := by
  rcases Nat.lt_or_ge g w.heap.size with h1 | h1
  · exact h1
  · unfold Src at h; rw [Array.getElem?_eq_none h1] at h; cases h
theorem Src.cell0 {w : World} {g : Nat} {a : Option Addr} {len cap p : Nat} (h : Src w g a len cap p) : w.cell? ⟨g, 0, none⟩ = some (.slice a len cap) := by unfold Src at h; simp [World.cell?, h]
theorem Src.cell1 {w : World} {g : Nat} {a : Option Addr} {len cap p : Nat} (h : Src w g a len cap p) : w.cell? ⟨g, 1, none⟩ = some (.int .i64 p) := by unfold Src at h; simp [World.cell?, h]
theorem Src.free {w : World} {g : Nat} {a : Option Addr} {len cap p : Nat} (h : Src w g a len cap p) (i : Nat) : w.frozen? ⟨g, i, none⟩ = false := by unfold Src at h; simp [World.frozen?, h]
theorem Src.keep {w w' : World} {g : Nat} {a : Option Addr} {len cap p : Nat} (h : Src w g a len cap p) (hk : w'.heap[g]? = w.heap[g]?) : Src w' g a len cap p := hk.trans h
theorem Src.step {w : World} {g : Nat} {a : Option Addr} {len cap p : Nat} (h : Src w g a len cap p) : Src (w.setCell ⟨g, 1, none⟩ (.int .i64 (p + 1))) g a len cap (p + 1) := by
  unfold Src at *; simp [World.setCell, Array.getElem?_modify, h]

theorem Src.drewN {w : World} {g : Nat} {a : Option Addr} {len cap p : Nat} (h : Src w g a len cap p) (n : Nat) : Src (w.drewN n) g a len cap p := h

def Nexted (g : Nat) (n : Int) (a : Option Addr) (len cap p : Nat) (w : World) (r : Ending) (w' : World) : Prop :=
  ∃ v : Int, 0 ≤ v ∧ (v < n ∨ n < 1 ∧ v = 0) ∧ r = .returned (.int .i64 v) ∧ Src w' g a len cap (p + 1) ∧ Only g w w'

theorem l1Next_pos (g : Nat) (n : Int) (a : Option Addr) (len cap p B : Nat) (zs : List Int) (w : World) (hS : Src w g a len cap p) (hR : Row .u8 w B a len cap zs) (hB : B ≤ g) (hp : p ≤ 1000000) (hn : 1 ≤ n) (hl : 0 < len) :
    Calls Tryz.prog 37 #[.pointer (some ⟨g, 0, none⟩), .int .i64 n] w (Nexted g n a len cap p w) := by
  have c0 := hS.cell0
  have c1 := hS.cell1
  have f1 := hS.free 1
  have hlen := hR.fits
  have hmost := hR.most
  unfold maxLen at hmost
  obtain ⟨b, off, rfl, hb, hc⟩ := hR.cells hl
  have hbg : b ≠ g := by omega
  have r1 : p % len < len := Nat.mod_lt _ hl
  have r2 : (p + 1) % len < len := Nat.mod_lt _ hl
  have d1 := hc _ r1
  have d2 := hc _ r2
  obtain ⟨z0, z1⟩ := hR.byte (p % len)
  obtain ⟨y0, y1⟩ := hR.byte ((p + 1) % len)
  clear hc
  have q0 : 0 ≤ (p : Int) / len ∧ (p : Int) / len ≤ 1000000 := ⟨Int.ediv_nonneg (by omega) (by omega), by
    have : (p : Int) / len ≤ p := Int.ediv_le_self _ (by omega)
    omega⟩
  obtain ⟨q1, q2⟩ := q0
  have e0 : ((len : Int) == 0) = false := by rw [beq_eq_false_iff_ne]; omega
  simp only [List.getD_eq_getElem?_getD] at z0 z1 y0 y1 d1 d2
  have m1 : 0 ≤ ((p : Int) + 1) % len := Int.emod_nonneg _ (by omega)
  have m2 : ((p : Int) + 1) % len < len := Int.emod_lt_of_pos _ (by omega)
  have m3 : (((p : Int) + 1) % len).toNat = (p + 1) % len := by
    have : ((p : Int) + 1) % len = ((p + 1) % len : Nat) := by simp
    rw [this]; rfl
  have HS := Lib.hid (And.intro hS.step ((Only.refl g w).setCell 1 (.int .i64 (p + 1))))
  by_cases h2 : 200 < n
  · go_enter Tryz.func37, Tryz.ntmps37
    go_wp2_with fail
    go_quiet (fail)
    go_wp2_with fail
    go_quiet (fail)
    go_wp2_with fail
    go_ret
    exact ⟨_, Int.emod_nonneg _ (by omega), .inl (Int.emod_lt_of_pos _ (by omega)), rfl, HS.out.1.drewN _, HS.out.2.drewN _⟩
  · go_enter Tryz.func37, Tryz.ntmps37
    go_wp2_with fail
    go_quiet (fail)
    go_wp2_with fail
    go_ret
    exact ⟨_, Int.emod_nonneg _ (by omega), .inl (Int.emod_lt_of_pos _ (by omega)), rfl, HS.out.1.drewN _, HS.out.2.drewN _⟩

theorem l1Next_any (g : Nat) (n : Int) (a : Option Addr) (len cap p B : Nat) (zs : List Int) (w : World) (hS : Src w g a len cap p) (hR : Row .u8 w B a len cap zs) (hB : B ≤ g) (hp : p ≤ 1000000) :
    Calls Tryz.prog 37 #[.pointer (some ⟨g, 0, none⟩), .int .i64 n] w (Nexted g n a len cap p w) := by
  have c0 := hS.cell0
  have c1 := hS.cell1
  have f1 := hS.free 1
  have HS := Lib.hid (And.intro hS.step ((Only.refl g w).setCell 1 (.int .i64 (p + 1))))
  by_cases hn : n < 1
  · go_enter Tryz.func37, Tryz.ntmps37
    go_wp2_with fail
    go_ret
    exact ⟨0, by omega, .inr ⟨hn, rfl⟩, rfl, HS.out.1, HS.out.2⟩
  · rcases Nat.eq_zero_or_pos len with h0 | h0
    · have e0 : ((len : Int) == 0) = true := by rw [beq_iff_eq]; omega
      clear h0
      go_enter Tryz.func37, Tryz.ntmps37
      go_wp2_with fail
      go_ret
      exact ⟨_, Int.emod_nonneg _ (by omega), .inl (Int.emod_lt_of_pos _ (by omega)), rfl, HS.out.1, HS.out.2⟩
    · exact l1Next_pos g n a len cap p B zs w hS hR hB hp (by omega) h0

theorem l1Source_any (a : Option Addr) (len cap : Nat) (w : World) :
    Calls Tryz.prog 24 #[.slice a len cap] w fun r w' => r = .returned (.pointer (some ⟨w.heap.size, 0, none⟩)) ∧ w' = w.alloc (.cells #[.slice a len cap, .int .i64 0] 75) := by
  go_enter Tryz.func24, Tryz.ntmps24
  go_wp2_with fail
  go_ret
  simp

/-- One of a list is picked: its place is drawn. -/
def Picked (g : Nat) (vs : List Int) (a : Option Addr) (len cap p : Nat) (w : World) (r : Ending) (w' : World) : Prop :=
  ∃ v : Int, v ∈ vs ∧ r = .returned (.int .i64 v) ∧ Src w' g a len cap (p + 1) ∧ Only g w w'

theorem l1Pick_any (g q n : Nat) (vs : List Int) (a : Option Addr) (len cap p B : Nat) (zs : List Int) (w : World) (hS : Src w g a len cap p) (hR : Row .u8 w B a len cap zs) (hB : B ≤ g) (hp : p ≤ 1000000)
    (hq : q ≠ g) (hv : vs.length = n) (hn : 1 ≤ n) (hm : n ≤ 100) (hc : ∀ j, j < n → w.cell? ⟨q, j, none⟩ = some (.int .i64 (vs.getD j 0))) :
    Calls Tryz.prog 34 #[.pointer (some ⟨g, 0, none⟩), .slice (some ⟨q, 0, none⟩) n n] w (Picked g vs a len cap p w) := by
  have Hc := Lib.hid hc
  clear hc
  go_enter Tryz.func34, Tryz.ntmps34
  go_wp2_with fail
  refine (l1Next_any g _ a len cap p B zs _ hS hR hB hp).mono ?_
  rintro r w' ⟨v, v0, v1, rfl, hS', hO⟩
  obtain ⟨k, rfl⟩ := Int.eq_ofNat_of_zero_le v0
  have hk : k < n := by omega
  have hcell : w'.cell? ⟨q, k, none⟩ = some (.int .i64 (vs.getD k 0)) := (World.cell?_of_block (w := w) (hO.block q hq)).trans (Hc.out k hk)
  have hmem : vs.getD k 0 ∈ vs := by
    have : k < vs.length := by omega
    simp [List.getD, this]
  have HE := Lib.hid (And.intro hmem (And.intro hS' hO))
  clear v0 v1 hmem hS' hO
  go_wp2_with fail
  go_ret
  exact ⟨vs.getD k 0, HE.out.1, by simp [List.getD]; rw [List.getElem?_eq_getElem (by omega)]; rfl, HE.out.2.1, HE.out.2.2⟩

def Drawn3 (w : World) (r : Ending) (w' : World) : Prop := ∃ x y z : Int, r = .returned (.tuple #[.int .i64 x, .int .i64 y, .int .i64 z]) ∧ Below w.heap.size w w'
def Drawn2 (w : World) (r : Ending) (w' : World) : Prop := ∃ x y : Int, r = .returned (.tuple #[.int .i64 x, .int .i64 y]) ∧ Below w.heap.size w w'
def Drawn1 (w : World) (r : Ending) (w' : World) : Prop := ∃ x : Int, r = .returned (.int .i64 x) ∧ Below w.heap.size w w'

theorem Src.new (w : World) (a : Option Addr) (len cap p : Nat) : Src (w.alloc (.cells #[.slice a len cap, .int .i64 p] 75)) w.heap.size a len cap p := by
  unfold Src; exact (MapKept.heap_alloc w _).1
theorem Src.alloc {w : World} {g : Nat} {a : Option Addr} {len cap p : Nat} (h : Src w g a len cap p) (o : Obj) : Src (w.alloc o) g a len cap p := h.keep (Below.heap_alloc w o g h.lt)

/-- What stays so while draws are made: the source is the first block behind w0; what was there ahead has not turned. -/
structure Draw (w0 : World) (a : Option Addr) (len cap : Nat) (zs : List Int) (p : Nat) (w : World) : Prop where
  src : Src w w0.heap.size a len cap p
  row : Row .u8 w w0.heap.size a len cap zs
  bel : Below w0.heap.size w0 w
theorem Draw.alloc {w0 : World} {a : Option Addr} {len cap : Nat} {zs : List Int} {p : Nat} {w : World} (h : Draw w0 a len cap zs p w) (o : Obj) : Draw w0 a len cap zs p (w.alloc o) :=
  ⟨h.src.alloc o, h.row.below ((Below.refl _ w).alloc h.bel.size o), h.bel.alloc h.bel.size o⟩
theorem Draw.only {w0 : World} {a : Option Addr} {len cap : Nat} {zs : List Int} {p p' : Nat} {w w' : World} (h : Draw w0 a len cap zs p w) (hS : Src w' w0.heap.size a len cap p') (hO : Only w0.heap.size w w') : Draw w0 a len cap zs p' w' :=
  ⟨hS, h.row.below (hO.below (Nat.le_refl _)), h.bel.trans (hO.below (Nat.le_refl _))⟩
theorem Draw.new {w0 : World} {a : Option Addr} {len cap : Nat} {zs : List Int} (p : Nat) (hR : Row .u8 w0 w0.heap.size a len cap zs) : Draw w0 a len cap zs p (w0.alloc (.cells #[.slice a len cap, .int .i64 p] 75)) :=
  ⟨Src.new w0 a len cap p, hR.below (bal (Below.refl _ _) _), bal (Below.refl _ _) _⟩
theorem Draw.below {w0 : World} {a : Option Addr} {len cap : Nat} {zs : List Int} {p : Nat} {w w' : World} (h : Draw w0 a len cap zs p w) (hb : Below w.heap.size w w') : Draw w0 a len cap zs p w' :=
  ⟨h.src.keep (hb.block _ h.src.lt), h.row.below (hb.mono h.bel.size), h.bel.trans (hb.mono h.bel.size)⟩

def DNext (w0 : World) (a : Option Addr) (len cap : Nat) (zs : List Int) (p : Nat) (n : Int) (w : World) (r : Ending) (w' : World) : Prop :=
  ∃ v : Int, 0 ≤ v ∧ (v < n ∨ n < 1 ∧ v = 0) ∧ r = .returned (.int .i64 v) ∧ Draw w0 a len cap zs (p + 1) w' ∧ Only w0.heap.size w w'
def DPick (w0 : World) (a : Option Addr) (len cap : Nat) (zs : List Int) (p : Nat) (vs : List Int) (w : World) (r : Ending) (w' : World) : Prop :=
  ∃ v : Int, v ∈ vs ∧ r = .returned (.int .i64 v) ∧ Draw w0 a len cap zs (p + 1) w' ∧ Only w0.heap.size w w'

theorem dnext {w0 : World} {a : Option Addr} {len cap : Nat} {zs : List Int} {p : Nat} (n : Int) {w : World} (D : Draw w0 a len cap zs p w) (hp : p ≤ 1000000) :
    Calls Tryz.prog 37 #[.pointer (some ⟨w0.heap.size, 0, none⟩), .int .i64 n] w (DNext w0 a len cap zs p n w) :=
  (l1Next_any w0.heap.size n a len cap p w0.heap.size zs w D.src D.row (Nat.le_refl _) hp).mono fun _ _ ⟨v, h0, h1, hr, hS, hO⟩ => ⟨v, h0, h1, hr, D.only hS hO, hO⟩

theorem cells_new (w : World) (vs : List Int) (t : TypeId) (j : Nat) (hj : j < vs.length) : (w.alloc (.cells (vs.map (Value.int .i64)).toArray t)).cell? ⟨w.heap.size, j, none⟩ = some (.int .i64 (vs.getD j 0)) := by
  have e : (w.alloc (.cells (vs.map (Value.int .i64)).toArray t)).heap[w.heap.size]? = some (.cells (vs.map (Value.int .i64)).toArray t) := (MapKept.heap_alloc w _).1
  unfold World.cell?
  rw [e]
  simp [hj]

theorem dpick {w0 : World} {a : Option Addr} {len cap : Nat} {zs : List Int} {p : Nat} (vs : List Int) (n : Nat) {w : World} (D : Draw w0 a len cap zs p w) (hp : p ≤ 1000000) (hn : 1 ≤ n) (hm : n ≤ 100) (hv : vs.length = n) (t : TypeId) :
    Calls Tryz.prog 34 #[.pointer (some ⟨w0.heap.size, 0, none⟩), .slice (some ⟨w.heap.size, 0, none⟩) n n] (w.alloc (.cells (vs.map (Value.int .i64)).toArray t)) (DPick w0 a len cap zs p vs (w.alloc (.cells (vs.map (Value.int .i64)).toArray t))) :=
  (l1Pick_any w0.heap.size w.heap.size n vs a len cap p w0.heap.size zs _ (D.alloc _).src (D.alloc _).row (Nat.le_refl _) hp (by have := D.src.lt; omega) hv hn hm (fun j hj => cells_new w vs t j (by omega))).mono fun _ _ ⟨v, h0, hr, hS, hO⟩ => ⟨v, h0, hr, (D.alloc _).only hS hO, hO⟩

theorem dsource {a : Option Addr} {len cap : Nat} {zs : List Int} {w : World} (hR : Row .u8 w w.heap.size a len cap zs) :
    Calls Tryz.prog 24 #[.slice a len cap] w fun r w' => r = .returned (.pointer (some ⟨w.heap.size, 0, none⟩)) ∧ Draw w a len cap zs 0 w' :=
  (l1Source_any a len cap w).mono fun _ _ ⟨hr, hw⟩ => ⟨hr, by rw [hw]; exact Draw.new 0 hR⟩
theorem lwBig_any (a : Option Addr) (len cap : Nat) (w : World) (h : len ≤ 9223372036854775807) :
    Calls Tryz.prog 4 #[.slice a len cap] w fun r w' => r = .returned (.bool (decide (1048576 < len))) ∧ w = w' := by
  by_cases hl : 1048576 < len
  · have e : decide (1048576 < len) = true := by simp [hl]
    rw [e]; clear e
    go_enter Tryz.func4, Tryz.ntmps4
    go_wp2_with fail
    go_ret
    simp; omega
  · have e : decide (1048576 < len) = false := by simp [hl]
    rw [e]; clear e
    go_enter Tryz.func4, Tryz.ntmps4
    go_wp2_with fail
    go_ret
    simp; omega

def Ated (n : Int) (w : World) (r : Ending) (w' : World) : Prop := ∃ v : Int, 0 ≤ v ∧ (v < n ∨ n ≤ 1 ∧ v = 0) ∧ r = .returned (.int .i64 v) ∧ Below w.heap.size w w'

end Go.Proofs.YtcnpocppgghejaaGreatDoor
namespace Go.Proofs.YtcnpocppgghejaaGreatDoor
open Go.RowKit
set_option maxRecDepth 100000

/-- A slice of slices of bytes that is read: 'zss' are its elements; all of it lies below block B. -/
structure Grid (w : World) (B : Nat) (a : Option Addr) (len cap : Nat) (zss : List (List Int)) : Prop where
  length : zss.length = len
  fits : len ≤ cap
  most : cap ≤ maxLen
  cells : 0 < len → ∃ b off, a = some ⟨b, off, none⟩ ∧ b < B ∧ ∀ j, j < len → ∃ a' n' c', w.cell? ⟨b, off + j, none⟩ = some (.slice a' n' c') ∧ Row .u8 w B a' n' c' (zss[j]?.getD [])
section
variable {w w' : World} {B B' : Nat} {a : Option Addr} {len cap : Nat} {zss : List (List Int)}
theorem Grid.keep (h : Grid w B a len cap zss) (hk : ∀ i, i < B → w'.heap[i]? = w.heap[i]?) : Grid w' B a len cap zss :=
  ⟨h.length, h.fits, h.most, fun hp => by
    obtain ⟨b, off, e, hb, hc⟩ := h.cells hp
    refine ⟨b, off, e, hb, fun j hj => ?_⟩
    obtain ⟨a', n', c', h1, h2⟩ := hc j hj
    exact ⟨a', n', c', (World.cell?_of_block (w := w) (hk b hb)).trans h1, h2.keep hk⟩⟩
theorem Grid.below (h : Grid w B a len cap zss) (hb : Below B w w') : Grid w' B a len cap zss := h.keep hb.block
theorem Grid.more (h : Grid w B a len cap zss) (hB : B ≤ B') : Grid w B' a len cap zss :=
  ⟨h.length, h.fits, h.most, fun hp => by
    obtain ⟨b, off, e, hb, hc⟩ := h.cells hp
    refine ⟨b, off, e, by omega, fun j hj => ?_⟩
    obtain ⟨a', n', c', h1, h2⟩ := hc j hj
    exact ⟨a', n', c', h1, h2.more hB⟩⟩
theorem Grid.on (h : Grid w w.heap.size a len cap zss) (hb : Below w.heap.size w w') : Grid w' w'.heap.size a len cap zss := (h.below hb).more hb.size
theorem Grid.alloc (h : Grid w B a len cap zss) (hB : B ≤ w.heap.size) (o : Obj) : Grid (w.alloc o) B a len cap zss := h.below ((Below.refl B w).alloc hB o)
theorem Grid.nil (w : World) (B : Nat) : Grid w B none 0 0 [] := ⟨rfl, Nat.le_refl _, Nat.zero_le _, fun h => absurd h (by omega)⟩
end

def HeardRel (W : World) (zss : List (List Int)) (k : Nat) (v : Value) (wr : World) : Prop := OwnK .i64 wr W.heap.size v ((zss.take k).map M.sumL) ∧ Below W.heap.size W wr
theorem HeardRel.step {W wr w1 w2 : World} {zss : List (List Int)} {k : Nat} {v v' : Value} {o : Obj} (h : HeardRel W zss k v wr) (hk : k < zss.length) (hb : Below wr.heap.size wr w1)
    (ho : Own w2 W.heap.size 1 v' (((zss.take k).map M.sumL).length + 1) (((zss.take k).map M.sumL).map (Value.int .i64) ++ [.int .i64 (M.sumL (zss[k]?.getD []))])) (hg : (w1.alloc o).grownBy w2 v.ownBlock) : HeardRel W zss (k + 1) v' w2 := by
  refine ⟨?_, ?_⟩
  · unfold OwnK
    rw [← M.map_take_snoc M.sumL zss [] k hk]
    simpa using ho
  · have h1 : Below W.heap.size W (w1.alloc o) := bal (btr h.2 hb) o
    have h2 : Own (w1.alloc o) W.heap.size 1 v _ _ := (h.1.below hb).alloc o
    exact h2.grown h1 h1.size hg
theorem HeardRel.row {W wr : World} {zss : List (List Int)} {v : Value} (h : HeardRel W zss zss.length v wr) : ∃ a n c, v = .slice a n c ∧ n = zss.length ∧ Row .i64 wr wr.heap.size a n c (zss.map M.sumL) := by
  obtain ⟨ho, _⟩ := h
  rw [List.take_length] at ho
  obtain ⟨a, c, rfl, _⟩ := ho.form
  exact ⟨a, _, c, rfl, by simp, Own.row ho fun b hb => by
    obtain ⟨zs, _, rfl⟩ := List.mem_map.1 hb
    have := M.sumL_bd zs
    exact sum_wf (by simp [M.sumB]; omega)⟩

theorem src_new2 {P : Program} (w : World) (o : Obj) (vs : List Value) (m c : Nat) (t tx e' : TypeId) (hk : P.underlying tx = some (.slice e')) (hm : vs.length = m) (h1 : ∀ u ∈ vs, u.oneCell' = true) :
    Go.Src P 1 tx (.slice (some ⟨w.heap.size + 1, 0, none⟩) m c) m vs ((w.alloc o).alloc (.cells vs.toArray t)) := by
  have := src_new (P := P) (w.alloc o) vs m c t tx e' hk hm h1
  rwa [show (w.alloc o).heap.size = w.heap.size + 1 by simp] at this

end Go.Proofs.YtcnpocppgghejaaGreatDoor
namespace Go.Proofs.YtcnpocppgghejaaGreatDoor
open Go.RowKit
set_option maxRecDepth 100000

/-- The slice v holds the rows, each of them a slice of bytes of the call's own, none of them in v's own block. -/
structure Own2 (w : World) (B : Nat) (v : Value) (rows : List (Value × List Int)) : Prop where
  own : Own w B 1 v rows.length (rows.map (·.1))
  each : ∀ x ∈ rows, ∃ a n c, x.1 = .slice a n c ∧ OwnK .u8 w B (.slice a n c) x.2 ∧ ∀ z ∈ x.2, (Lit.int .u8 z).wf = true
  apart : ∀ x ∈ rows, ∀ k, x.1.ownBlock = some k → v.ownBlock ≠ some k
section
variable {w w' : World} {B : Nat} {v : Value} {rows : List (Value × List Int)}
theorem Own2.keep (h : Own2 w B v rows) (hs : w.heap.size ≤ w'.heap.size) (hk : ∀ k, B ≤ k → k < w.heap.size → w'.heap[k]? = w.heap[k]?) : Own2 w' B v rows :=
  ⟨h.own.keep hs fun k e => hk k (h.own.lt k e).1 (h.own.lt k e).2, fun x hx => by
    obtain ⟨a, n, c, e, o, z⟩ := h.each x hx
    exact ⟨a, n, c, e, o.keep hs fun k e => hk k (o.lt k e).1 (o.lt k e).2, z⟩, h.apart⟩
theorem Own2.below (h : Own2 w B v rows) (hb : Below w.heap.size w w') : Own2 w' B v rows := h.keep hb.size fun k _ hk => hb.block k hk
theorem Own2.alloc (h : Own2 w B v rows) (o : Obj) : Own2 (w.alloc o) B v rows := h.below (bal (Below.refl _ _) o)
theorem Own2.kept {g : Nat} (h : Own2 w B v rows) (hg : w.grownBy w' (some g)) (hne : g < B) : Own2 w' B v rows :=
  h.keep hg.size fun k hB hk => hg.block k hk (fun e => by injection e with e; omega)
theorem Own2.only {g : Nat} (h : Own2 w B v rows) (hg : Only g w w') (hne : g < B) : Own2 w' B v rows :=
  h.keep (by rw [hg.size]; exact Nat.le_refl _) fun k hB _ => hg.block k (by omega)
theorem Own2.nil (w : World) (B : Nat) : Own2 w B (.slice none 0 0) [] := ⟨Own.nil _ _ _, (fun _ h => by cases h), (fun _ h => by cases h)⟩
theorem Own2.empty (h : Own w B 1 v 0 []) : Own2 w B v [] := ⟨h, (fun _ h => by cases h), (fun _ h => by cases h)⟩
/-- One more row was appended. -/
theorem Own2.more {w1 w2 : World} {v' : Value} {a : Option Addr} {n c : Nat} {zs : List Int} (h : Own2 w1 B v rows) (ho : OwnK .u8 w1 B (.slice a n c) zs) (hz : ∀ z ∈ zs, (Lit.int .u8 z).wf = true)
    (hne : ∀ k, Value.ownBlock (.slice a n c) = some k → v.ownBlock ≠ some k)
    (hn : Own w2 B 1 v' (rows.length + 1) (rows.map (·.1) ++ [.slice a n c])) (hg : w1.grownBy w2 v.ownBlock) (hat : v'.ownBlock = v.ownBlock ∨ v'.ownBlock = some w1.heap.size) : Own2 w2 B v' (rows ++ [(.slice a n c, zs)]) := by
  have keepRow : ∀ {u : Value} {m : Nat} {xs : List Value}, Own w1 B 1 u m xs → (∀ k, u.ownBlock = some k → v.ownBlock ≠ some k) → Own w2 B 1 u m xs := fun {u m xs} o hne => by
    refine o.keep hg.size fun k hk => hg.block k (o.lt k hk).2 (fun e => hne k hk e.symm)
  have newApart : ∀ {u : Value} {m : Nat} {xs : List Value}, Own w1 B 1 u m xs → (∀ k, u.ownBlock = some k → v.ownBlock ≠ some k) → ∀ k, u.ownBlock = some k → v'.ownBlock ≠ some k := fun {u m xs} o hne k hk => by
    rcases hat with e | e
    · rw [e]; exact hne k hk
    · rw [e]
      intro e2
      injection e2 with e2
      have := (o.lt k hk).2
      omega
  refine ⟨by simpa using hn, fun x hx => ?_, fun x hx k hk => ?_⟩
  · rcases List.mem_append.1 hx with hx | hx
    · obtain ⟨a1, n1, c1, e1, o1, z1⟩ := h.each x hx
      exact ⟨a1, n1, c1, e1, keepRow o1 (by rw [← e1]; exact h.apart x hx), z1⟩
    · simp at hx
      subst hx
      exact ⟨a, n, c, rfl, keepRow ho hne, hz⟩
  · rcases List.mem_append.1 hx with hx | hx
    · obtain ⟨a1, n1, c1, e1, o1, z1⟩ := h.each x hx
      exact newApart o1 (by rw [← e1]; exact h.apart x hx) k (by rw [← e1]; exact hk)
    · simp at hx
      subst hx
      exact newApart ho hne k hk
/-- It can be read. -/
theorem Own2.grid (h : Own2 w B v rows) : ∃ a n c, v = .slice a n c ∧ n = rows.length ∧ Grid w w.heap.size a n c (rows.map (·.2)) := by
  rcases h.own.2 with ⟨rfl, h0⟩ | ⟨g, cap, rfl, hb, hg, h1, h2, hc, _⟩
  · have : rows = [] := List.eq_nil_of_length_eq_zero h0
    subst this
    exact ⟨none, 0, 0, rfl, rfl, Grid.nil _ _⟩
  · refine ⟨some ⟨g, 0, none⟩, rows.length, cap, rfl, rfl, by simp, h1, h2, fun hp => ⟨g, 0, rfl, hg, fun j hj => ?_⟩⟩
    have hx : rows[j] ∈ rows := List.getElem_mem hj
    obtain ⟨a, n, c, e, o, z⟩ := h.each _ hx
    refine ⟨a, n, c, ?_, ?_⟩
    · rw [Nat.zero_add]
      exact hc j _ (by simp [hj, e])
    · have e2 : (rows.map (·.2))[j]?.getD [] = rows[j].2 := by simp [hj]
      rw [e2]
      exact Own.row o z
theorem Own2.rows_wf (h : Own2 w B v rows) : ∀ zs ∈ rows.map (·.2), ∀ z ∈ zs, (Lit.int .u8 z).wf = true := by
  intro zs hzs z hz
  obtain ⟨x, hx, rfl⟩ := List.mem_map.1 hzs
  obtain ⟨_, _, _, _, _, hw⟩ := h.each x hx
  exact hw z hz
/-- n nil rows, newly made. -/
theorem Own2.made (w : World) (n : Nat) (e : TypeId) (hB : B ≤ w.heap.size) (hm : n ≤ maxLen) : Own2 (w.alloc (.cells (madeCells #[.slice none 0 0] n) e)) B (.slice (some ⟨w.heap.size, 0, none⟩) n n) (List.replicate n (.slice none 0 0, [])) := by
  have e1 : (w.alloc (.cells (madeCells #[.slice none 0 0] n) e)).heap[w.heap.size]? = some (.cells (madeCells #[.slice none 0 0] n) e) := (MapKept.heap_alloc w _).1
  have hs : (madeCells #[Value.slice none 0 0] n).size = n := size_madeCells _ _
  refine ⟨⟨by simp, .inr ⟨w.heap.size, n, by simp, hB, by simp, by simp, hm, fun j u hu => ?_, fun j hj => ?_⟩⟩, fun x hx => ?_, fun x hx k hk => ?_⟩
  · unfold World.cell?
    rw [e1]
    have ht := toList_madeCells_one (.slice none 0 0) n
    simp only [Option.isSome_none, Bool.false_eq_true, if_false]
    rw [← Array.getElem?_toList, ht]
    simpa using hu
  · unfold World.cell? World.frozen?
    rw [e1]
    simp [show j < (madeCells #[Value.slice none 0 0] n).size by rw [hs]; omega]
  · obtain ⟨_, rfl⟩ := List.mem_replicate.1 hx
    exact ⟨none, 0, 0, rfl, Own.nil _ _ _, fun _ h => by cases h⟩
  · obtain ⟨_, rfl⟩ := List.mem_replicate.1 hx
    simp [Value.ownBlock] at hk
end
/-- n zero numbers, newly made. -/
theorem OwnK.made (k : IntKind) {B : Nat} (w : World) (n : Nat) (e : TypeId) (hB : B ≤ w.heap.size) (hm : n ≤ maxLen) : OwnK k (w.alloc (.cells (madeCells #[.int k 0] n) e)) B (.slice (some ⟨w.heap.size, 0, none⟩) n n) (List.replicate n 0) := by
  have e1 : (w.alloc (.cells (madeCells #[.int k 0] n) e)).heap[w.heap.size]? = some (.cells (madeCells #[.int k 0] n) e) := (MapKept.heap_alloc w _).1
  have hs : (madeCells #[Value.int k 0] n).size = n := size_madeCells _ _
  refine ⟨by simp, .inr ⟨w.heap.size, n, by simp, hB, by simp, by simp, hm, fun j u hu => ?_, fun j hj => ?_⟩⟩
  · unfold World.cell?
    rw [e1]
    have ht := toList_madeCells_one (.int k 0) n
    simp only [Option.isSome_none, Bool.false_eq_true, if_false]
    rw [← Array.getElem?_toList, ht]
    simpa using hu
  · unfold World.cell? World.frozen?
    rw [e1]
    simp [show j < (madeCells #[Value.int k 0] n).size by rw [hs]; omega]
theorem zeros_wf (k : IntKind) (n : Nat) : ∀ z ∈ List.replicate n (0 : Int), (Lit.int k z).wf = true := by
  intro z hz
  obtain ⟨_, rfl⟩ := List.mem_replicate.1 hz
  cases k <;> decide
end Go.Proofs.YtcnpocppgghejaaGreatDoor
namespace Go.Proofs.YtcnpocppgghejaaGreatDoor
open Go.RowKit
set_option maxRecDepth 100000

theorem Own.only {g : Nat} {w w' : World} {B size : Nat} {v : Value} {n : Nat} {xs : List Value} (h : Own w B size v n xs) (hO : Only g w w') (hg : g < B) : Own w' B size v n xs :=
  h.keep (by rw [hO.size]; exact Nat.le_refl _) fun k hk => hO.block k (by have := (h.lt k hk).1; omega)
theorem Only.grown {g : Nat} {w w' : World} (h : Only g w w') : w.grownBy w' (some g) := ⟨h.os, h.tape, h.output, by rw [h.size]; exact Nat.le_refl _, fun k _ hne => h.block k (fun e => hne (by rw [e]))⟩
section
variable {w0 : World} {a : Option Addr} {len cap : Nat} {zs : List Int} {p : Nat} {w w' : World}
theorem Draw.lt (h : Draw w0 a len cap zs p w) : w0.heap.size < w.heap.size := h.src.lt
theorem Draw.grown {row : Option Nat} (h : Draw w0 a len cap zs p w) (hg : w.grownBy w' row) (hr : ∀ k, row = some k → w0.heap.size < k) : Draw w0 a len cap zs p w' :=
  ⟨h.src.keep (hg.block _ h.lt (fun e => by have := hr _ e.symm; omega)),
   h.row.keep (fun i hi => hg.block i (by have := h.lt; omega) (fun e => by have := hr _ e.symm; omega)),
   h.bel.grown hg h.bel.size (fun k hk => by have := hr k hk; omega)⟩
end

/-- Bytes that were drawn, in new memory. -/
def DSome (w0 : World) (a : Option Addr) (len cap : Nat) (zs : List Int) (p n : Nat) (w : World) (r : Ending) (w' : World) : Prop :=
  ∃ a' c' zs', r = .returned (.slice a' n c') ∧ OwnK .u8 w' w.heap.size (.slice a' n c') zs' ∧ (∀ z ∈ zs', (Lit.int .u8 z).wf = true) ∧ Draw w0 a len cap zs (p + n) w' ∧ w.grownBy w' (some w0.heap.size)
structure SomeRel (w0 : World) (a : Option Addr) (len cap : Nat) (zs : List Int) (p : Nat) (w : World) (k : Nat) (v : Value) (wr : World) : Prop where
  own : ∃ zs', zs'.length = k ∧ OwnK .u8 wr w.heap.size v zs' ∧ ∀ z ∈ zs', (Lit.int .u8 z).wf = true
  draw : Draw w0 a len cap zs (p + k) wr
  grew : w.grownBy wr (some w0.heap.size)
theorem u8_wf {x : Int} (h0 : 0 ≤ x) (h1 : x < 256) : (Lit.int .u8 x).wf = true := byte_wf ⟨h0, by omega⟩

abbrev labS : List ByteArray := [{ data := #[107, 101, 121] }, { data := #[105, 118] }, { data := #[97] }, { data := #[] }, { data := #[116, 104, 105, 114, 116, 101, 101, 110, 99, 104, 97, 114, 115] }, { data := #[75] }, { data := #[116, 119, 101, 108, 118, 101, 99, 104, 97, 114, 115, 115] }]
theorem labS_size (k : Nat) : ((labS.getD k ByteArray.empty).size) ≤ 13 := by
  rcases Nat.lt_or_ge k 7 with h | h
  · have : ∀ j : Fin 7, ((labS.getD j.val ByteArray.empty).size) ≤ 13 := by decide
    exact this ⟨k, h⟩
  · have : labS.getD k ByteArray.empty = ByteArray.empty := by simp [List.getD, h]
    rw [this]; decide
def DLabel (w0 : World) (a : Option Addr) (len cap : Nat) (zs : List Int) (p : Nat) (w : World) (r : Ending) (w' : World) : Prop :=
  ∃ s : ByteArray, s.size ≤ 13 ∧ r = .returned (.string s) ∧ Draw w0 a len cap zs (p + 1) w' ∧ w.grownBy w' (some w0.heap.size)
def DrawnKL (w : World) (r : Ending) (w' : World) : Prop := ∃ (k : Int) (s : ByteArray), r = .returned (.tuple #[.int .i64 k, .string s]) ∧ s.size ≤ 13 ∧ Below w.heap.size w w'
def DrawnRow (w : World) (r : Ending) (w' : World) : Prop := ∃ a n c zs, r = .returned (.slice a n c) ∧ Row .u8 w' w'.heap.size a n c zs ∧ Below w.heap.size w w'
def DrawnGrid (w : World) (r : Ending) (w' : World) : Prop := ∃ a n c zss, r = .returned (.slice a n c) ∧ Grid w' w'.heap.size a n c zss ∧ Below w.heap.size w w'
def DrawnSI (w : World) (r : Ending) (w' : World) : Prop := ∃ (s : ByteArray) (a : Option Addr) (n c : Nat) (zs : List Int), r = .returned (.tuple #[.string s, .slice a n c]) ∧ s.size ≤ 13 ∧ Row .i64 w' w'.heap.size a n c zs ∧ Below w.heap.size w w'

end Go.Proofs.YtcnpocppgghejaaGreatDoor
namespace Go.Proofs.YtcnpocppgghejaaGreatDoor
open Go.RowKit
set_option maxRecDepth 100000
set_option linter.unusedVariables false

abbrev bentN : List ByteArray := [{ data := #[97, 46, 98] }, { data := #[65, 46, 66, 46] }, { data := #[109, 97, 105, 108, 46, 120] }, { data := #[45, 97] }, { data := #[97, 45] }, { data := #[97, 46, 46, 98] }, { data := #[46] }, { data := #[] }, { data := #[97, 95, 98] }, { data := #[97, 98, 99, 100, 101, 102, 103, 104, 105, 106, 46, 97, 98, 99, 100, 101, 102, 103, 104, 105] }, { data := #[97, 98, 99, 100, 101, 102, 103, 104, 105, 106, 46, 97, 98, 99, 100, 101, 102, 103, 104, 105, 106] }, { data := #[122, 46] }]
abbrev drawN : List ByteArray := [{ data := #[97, 46, 98] }, { data := #[109, 97, 105, 108, 46, 120] }, { data := #[104, 111, 115, 116, 45, 49] }, { data := #[122] }]
theorem bentN_size (k : Nat) : ((bentN.getD k ByteArray.empty).size) ≤ 21 := by
  rcases Nat.lt_or_ge k 12 with h | h
  · have : ∀ j : Fin 12, ((bentN.getD j.val ByteArray.empty).size) ≤ 21 := by decide
    exact this ⟨k, h⟩
  · have : bentN.getD k ByteArray.empty = ByteArray.empty := by simp [List.getD, h]
    rw [this]; decide
theorem drawN_size (k : Nat) : ((drawN.getD k ByteArray.empty).size) ≤ 20 := by
  rcases Nat.lt_or_ge k 4 with h | h
  · have : ∀ j : Fin 4, ((drawN.getD j.val ByteArray.empty).size) ≤ 20 := by decide
    exact this ⟨k, h⟩
  · have : drawN.getD k ByteArray.empty = ByteArray.empty := by simp [List.getD, h]
    rw [this]; decide
theorem drawN_norm (k : Nat) (h : k < 4) : M.normF (drawN.getD k ByteArray.empty).data.toList = 0 := by
  have : ∀ j : Fin 4, M.normF (drawN.getD j.val ByteArray.empty).data.toList = 0 := by decide +kernel
  exact this ⟨k, h⟩

theorem gtr {w w1 w2 : World} {g : Nat} (h : w.grownBy w1 (some g)) (k : w1.grownBy w2 (some g)) : w.grownBy w2 (some g) := grown_trans h k (fun _ e => .inr e) (fun _ e => .inr e)
theorem gal {w w1 : World} {g : Nat} (h : w.grownBy w1 (some g)) (o : Obj) : w.grownBy (w1.alloc o) (some g) :=
  ⟨h.os, h.tape, h.output, Nat.le_trans h.size (by simp), fun k hk hne => (Below.heap_alloc w1 o k (Nat.lt_of_lt_of_le hk h.size)).trans (h.block k hk hne)⟩
theorem gbe {w w1 w2 : World} {g : Nat} (h : w.grownBy w1 (some g)) (k : Below w1.heap.size w1 w2) : w.grownBy w2 (some g) :=
  ⟨k.os.trans h.os, k.tape.trans h.tape, k.output.trans h.output, Nat.le_trans h.size k.size, fun i hi hne => (k.block i (Nat.lt_of_lt_of_le hi h.size)).trans (h.block i hi hne)⟩
theorem gset {w w1 : World} {g : Nat} (h : w.grownBy w1 (some g)) {p : Addr} (hp : w.heap.size ≤ p.block) (v : Value) : w.grownBy (w1.setCell p v) (some g) :=
  ⟨h.os, h.tape, h.output, by simpa [World.setCell] using h.size, fun k hk hne => (Below.heap_setCell w1 p v k (by omega)).trans (h.block k hk hne)⟩

theorem Draw.put {w0 : World} {a : Option Addr} {len cap : Nat} {zs : List Int} {p : Nat} {w : World} {x : Addr} (h : Draw w0 a len cap zs p w) (hx : w0.heap.size < x.block) (u : Value) : Draw w0 a len cap zs p (w.setCell x u) :=
  h.grown (row := some x.block) ⟨rfl, rfl, rfl, by simp [World.setCell], fun k hk hne => Below.heap_setCell w x u k (fun e => hne (by rw [e]))⟩ (fun k e => by injection e with e; omega)
theorem At.only5 {g g0 : Nat} {cs : List Value} {w w' : World} (h : At g cs w) (hO : Only g0 w w') (hg : g ≠ g0) : At g cs w' := h.keep fun _ => hO.block g hg
/-- A text was drawn. -/
def DText (Q : ByteArray → Prop) (w0 : World) (a : Option Addr) (len cap : Nat) (zs : List Int) (p : Nat) (w : World) (r : Ending) (w' : World) : Prop :=
  ∃ s : ByteArray, Q s ∧ r = .returned (.string s) ∧ Draw w0 a len cap zs (p + 1) w' ∧ w.grownBy w' (some w0.heap.size)
theorem dl5Bent {w0 : World} {a : Option Addr} {len cap : Nat} {zs : List Int} {p : Nat} {w : World} (D : Draw w0 a len cap zs p w) (hp : p ≤ 1000000) :
    Calls Tryz.prog 30 #[.pointer (some ⟨w0.heap.size, 0, none⟩)] w (DText (fun s => s.size ≤ 21) w0 a len cap zs p w) := by
  have hlt := D.lt
  have D1 := D.alloc (.cells (bentN.map Value.string).toArray 9)
  go_enter Tryz.func30, Tryz.ntmps30
  go_wp2_with fail
  refine (dnext _ D1 hp).mono ?_
  rintro r w2 ⟨x, x0, x1, rfl, D2, O2⟩
  obtain ⟨k, rfl⟩ := Int.eq_ofNat_of_zero_le x0
  have hk : k < 12 := by omega
  have hcell : w2.cell? ⟨w.heap.size, k, none⟩ = some (.string (bentN.getD k ByteArray.empty)) := by
    have e1 : (w.alloc (.cells (bentN.map Value.string).toArray 9)).heap[w.heap.size]? = some (.cells (bentN.map Value.string).toArray 9) := (MapKept.heap_alloc w _).1
    have e2 := O2.block w.heap.size (by omega)
    unfold World.cell?
    rw [e2, e1]
    have : k < bentN.length := hk
    simp only [Option.isSome_none, Bool.false_eq_true, if_false, List.getElem?_toArray, List.getElem?_map]
    rw [List.getElem?_eq_getElem this]
    simp [List.getD, List.getElem?_eq_getElem this]
  have hsz := bentN_size k
  generalize bentN.getD k ByteArray.empty = s at hcell hsz
  have HF := Lib.hid (And.intro D2 (grown_alloc O2.grown))
  have HS := Lib.hid hsz
  clear D D1 D2 O2 x0 x1 hsz
  go_wp2_with fail
  go_ret
  exact ⟨s, HS.out, rfl, HF.out.1, HF.out.2⟩

theorem dl5DrawName {w0 : World} {a : Option Addr} {len cap : Nat} {zs : List Int} {p : Nat} {w : World} (D : Draw w0 a len cap zs p w) (hp : p ≤ 1000000) :
    Calls Tryz.prog 31 #[.pointer (some ⟨w0.heap.size, 0, none⟩)] w (DText (fun s => s.size ≤ 20 ∧ M.normF s.data.toList = 0) w0 a len cap zs p w) := by
  have hlt := D.lt
  have D1 := D.alloc (.cells (drawN.map Value.string).toArray 9)
  go_enter Tryz.func31, Tryz.ntmps31
  go_wp2_with fail
  refine (dnext _ D1 hp).mono ?_
  rintro r w2 ⟨x, x0, x1, rfl, D2, O2⟩
  obtain ⟨k, rfl⟩ := Int.eq_ofNat_of_zero_le x0
  have hk : k < 4 := by omega
  have hcell : w2.cell? ⟨w.heap.size, k, none⟩ = some (.string (drawN.getD k ByteArray.empty)) := by
    have e1 : (w.alloc (.cells (drawN.map Value.string).toArray 9)).heap[w.heap.size]? = some (.cells (drawN.map Value.string).toArray 9) := (MapKept.heap_alloc w _).1
    have e2 := O2.block w.heap.size (by omega)
    unfold World.cell?
    rw [e2, e1]
    have : k < drawN.length := hk
    simp only [Option.isSome_none, Bool.false_eq_true, if_false, List.getElem?_toArray, List.getElem?_map]
    rw [List.getElem?_eq_getElem this]
    simp [List.getD, List.getElem?_eq_getElem this]
  have hsz := And.intro (drawN_size k) (drawN_norm k hk)
  generalize drawN.getD k ByteArray.empty = s at hcell hsz
  have HF := Lib.hid (And.intro D2 (grown_alloc O2.grown))
  have HS := Lib.hid hsz
  clear D D1 D2 O2 x0 x1 hsz
  go_wp2_with fail
  go_ret
  exact ⟨s, HS.out, rfl, HF.out.1, HF.out.2⟩

theorem key1 (a b : Int) (w : World) : Sem.run Tryz.prog (Instr.field 111 (.agg #[.int .i64 a, .int .i64 b]) 1) w = .ok (.int .i64 b) w := by kernel_rfl
theorem base_sum (n : Nat) : M.sumB (M.pw 4 n 2879) = true := by
  obtain ⟨h0, h1⟩ := M.pw_bd 4 n (m := 2879) (by omega)
  simp only [M.sumB, decide_eq_true_eq]
  omega
/-- A supplied key was drawn. -/
def DTlsa (K : Nat) (Q : ByteArray → Int → Int → Int → Prop) (w0 : World) (a : Option Addr) (len cap : Nat) (zs : List Int) (w : World) (r : Ending) (w' : World) : Prop :=
  ∃ (n : ByteArray) (u m v : Int) (p : Nat), Q n u m v ∧ p ≤ K ∧ r = .returned (T4 n u m v) ∧ Draw w0 a len cap zs p w' ∧ w.grownBy w' (some w0.heap.size)
end Go.Proofs.YtcnpocppgghejaaGreatDoor
namespace Go.Proofs.YtcnpocppgghejaaGreatDoor
open Go.RowKit
set_option maxRecDepth 100000
set_option linter.unusedVariables false

/-- While a drawn supplied key is bent: the result's block, and that of the key. -/
structure BentT (w0 : World) (a : Option Addr) (len cap : Nat) (zs : List Int) (p : Nat) (w : World) (rb tb : Nat) (n : ByteArray) (u m v : Int) (cur : World) : Prop where
  draw : Draw w0 a len cap zs p cur
  grew : w.grownBy cur (some w0.heap.size)
  res : At rb (TL4 { data := #[] } 0 0 0) cur
  one : At tb (TL4 n u m v) cur
  size : n.size ≤ 21
  few : p ≤ 10
section
variable {w0 : World} {a : Option Addr} {len cap : Nat} {zs : List Int} {p p' : Nat} {w : World} {rb tb : Nat} {n : ByteArray} {u m v : Int} {cur cur' : World}
theorem BentT.only (h : BentT w0 a len cap zs p w rb tb n u m v cur) (hO : Only w0.heap.size cur cur') (D : Draw w0 a len cap zs p' cur') (h1 : rb ≠ w0.heap.size) (h2 : tb ≠ w0.heap.size) (hp : p' ≤ 10) : BentT w0 a len cap zs p' w rb tb n u m v cur' :=
  ⟨D, gtr h.grew hO.grown, h.res.only5 hO h1, h.one.only5 hO h2, h.size, hp⟩
theorem BentT.kept (h : BentT w0 a len cap zs p w rb tb n u m v cur) (hO : cur.grownBy cur' (some w0.heap.size)) (D : Draw w0 a len cap zs p' cur') (h1 : rb ≠ w0.heap.size) (h2 : tb ≠ w0.heap.size) (hp : p' ≤ 10) : BentT w0 a len cap zs p' w rb tb n u m v cur' :=
  ⟨D, gtr h.grew hO, h.res.kept hO (fun e => by injection e with e; exact h1 e), h.one.kept hO (fun e => by injection e with e; exact h2 e), h.size, hp⟩
theorem BentT.alloc (h : BentT w0 a len cap zs p w rb tb n u m v cur) (o : Obj) : BentT w0 a len cap zs p w rb tb n u m v (cur.alloc o) :=
  ⟨h.draw.alloc o, gal h.grew o, h.res.alloc o, h.one.alloc o, h.size, h.few⟩
theorem BentT.put {n' : ByteArray} {u' m' v' : Int} (i : Nat) (x : Value) (h : BentT w0 a len cap zs p w rb tb n u m v cur) (he : (TL4 n u m v).set i x = TL4 n' u' m' v') (hs : n'.size ≤ 21) (h1 : rb ≠ tb) (h2 : w0.heap.size < tb) (h3 : w.heap.size ≤ tb) : BentT w0 a len cap zs p w rb tb n' u' m' v' (cur.setCell ⟨tb, i, none⟩ x) :=
  ⟨h.draw.put h2 x, gset h.grew h3 x, h.res.setB (p := ⟨tb, i, none⟩) h1 x, by have := h.one.set i x; rwa [he] at this, hs, h.few⟩
end
def DrawnText (w : World) (r : Ending) (w' : World) : Prop := ∃ s : ByteArray, r = .returned (.string s) ∧ s.size ≤ 21 ∧ Below w.heap.size w w'
def DrawnTlsa (w : World) (r : Ending) (w' : World) : Prop := ∃ (n : ByteArray) (u m v : Int), r = .returned (T4 n u m v) ∧ n.size ≤ 21 ∧ Below w.heap.size w w'
def DrawnFor (w : World) (r : Ending) (w' : World) : Prop := ∃ (s : ByteArray) (x y : Int), r = .returned (.tuple #[.string s, .int .i64 x, .int .i64 y]) ∧ s.size ≤ 21 ∧ Below w.heap.size w w'
end Go.Proofs.YtcnpocppgghejaaGreatDoor
namespace Go.Proofs.YtcnpocppgghejaaGreatDoor
open Go.RowKit

def marks (k : Int) (n : Nat) : List Int := (List.range n).map fun i : Nat => (k + (i : Int)) % 256
theorem marks_length (k : Int) (n : Nat) : (marks k n).length = n := by simp [marks]
theorem marks_at (k : Int) (n j : Nat) (h : j < n) : (marks k n)[j]? = some ((k + (j : Int)) % 256) := by simp [marks, h]
theorem marks_wf (k : Int) (n : Nat) : ∀ z ∈ marks k n, (Lit.int .u8 z).wf = true := by
  intro z hz
  simp only [marks, List.mem_map] at hz
  obtain ⟨i, _, rfl⟩ := hz
  simp [Lit.wf, IntKind.min, IntKind.max, IntKind.signed, IntKind.bits]; omega

structure MarkRel (w : World) (g cap : Nat) (k : Int) (j : Nat) (wr : World) : Prop where
  grew : w.grownBy wr (some g)
  lt : g < wr.heap.size
  room : ∀ i, i < cap → (∃ u, wr.cell? ⟨g, i, none⟩ = some u) ∧ wr.frozen? ⟨g, i, none⟩ = false
  told : ∀ i, i < j → wr.cell? ⟨g, i, none⟩ = some (.int .u8 ((k + (i : Int)) % 256))
theorem MarkRel.step {w : World} {g cap : Nat} {k : Int} {j : Nat} {wr : World} (h : MarkRel w g cap k j wr) (hj : j < cap) : MarkRel w g cap k (j + 1) (wr.setCell ⟨g, j, none⟩ (.int .u8 ((k + (j : Int)) % 256))) := by
  refine ⟨⟨h.grew.os, h.grew.tape, h.grew.output, by simpa [World.setCell] using h.grew.size, fun i hi hne => (Below.heap_setCell wr _ _ i (fun e => hne (by subst e; rfl))).trans (h.grew.block i hi hne)⟩, by simpa [World.setCell] using h.lt, fun i hi => ?_, fun i hi => ?_⟩
  · obtain ⟨⟨u, hu⟩, hf⟩ := h.room i hi
    refine ⟨?_, by rw [World.frozen?_setCell]; exact hf⟩
    obtain ⟨v, hv⟩ := cell?_setCell_some (w := wr) (p := ⟨g, j, none⟩) (x := .int .u8 ((k + (j : Int)) % 256)) (q := ⟨g, i, none⟩) (v := u) hu
    exact ⟨v, hv⟩
  · rcases Nat.lt_or_ge i j with hlt | hge
    · rw [World.cell?_setCell_other _ _ _ _ (fun e => by injection e with _ e2; omega)]
      exact h.told i hlt
    · obtain rfl : i = j := by omega
      obtain ⟨⟨u, hu⟩, _⟩ := h.room i hj
      rw [World.cell?_setCell_same _ _ _ (by rw [hu])]
def Marked (B : Nat) (k : Int) (v : Value) (n : Nat) (w : World) (r : Ending) (w' : World) : Prop := r = .returned (.int .i64 (k + n)) ∧ OwnK .u8 w' B v (marks k n) ∧ w.grownBy w' v.ownBlock
theorem MarkRel.own {w : World} {g cap : Nat} {k : Int} {n B : Nat} {wr : World} (h : MarkRel w g cap k n wr) (hB : B ≤ g) (hn : n ≤ cap) (hm : cap ≤ maxLen) : OwnK .u8 wr B (.slice (some ⟨g, 0, none⟩) n cap) (marks k n) := by
  unfold OwnK
  rw [marks_length]
  refine ⟨by simp [marks_length], .inr ⟨g, cap, rfl, hB, h.lt, hn, hm, fun j u hu => ?_, fun j hj => ?_⟩⟩
  · have hj := (List.getElem?_eq_some_iff.1 hu).1
    simp [marks_length] at hj
    rw [h.told j hj, ← hu]
    simp [marks_at k n j hj]
  · obtain ⟨⟨u, hu⟩, hf⟩ := h.room j (by omega)
    exact ⟨by rw [hu]; rfl, hf⟩

theorem OwnK.len {k : IntKind} {w : World} {B : Nat} {a : Option Addr} {len cap : Nat} {zs : List Int} (h : OwnK k w B (.slice a len cap) zs) : len = zs.length := by
  rcases h.2 with ⟨e, h0⟩ | ⟨g, c, e, _⟩
  · injection e with e1 e2 e3
    omega
  · injection e with e1 e2 e3

/-- Two answers of bytes lie in memory, the model's at block p1, the program's at block p2; the program's bytes are ms by now. -/
structure TwoRes (w : World) (c : Int) (zs : List Int) (p1 p2 : Nat) (a1 a2 : Option Addr) (n c1 c2 : Nat) (ms : List Int) (cur : World) : Prop where
  bel : Below w.heap.size w cur
  x0 : cur.cell? ⟨p1, 0, none⟩ = some (.int .i64 c)
  x1 : cur.cell? ⟨p1, 1, none⟩ = some (.slice a1 n c1)
  row : Row .u8 cur p1 a1 n c1 zs
  y0 : cur.cell? ⟨p2, 0, none⟩ = some (.int .i64 c)
  y1 : cur.cell? ⟨p2, 1, none⟩ = some (.slice a2 n c2)
  own : OwnK .u8 cur (p1 + 1) (.slice a2 n c2) ms
  old : w.heap.size ≤ p1
  sep : ∀ k, Value.ownBlock (.slice a2 n c2) = some k → k < p2
  ahead : p1 < p2
section
variable {w : World} {c : Int} {zs : List Int} {p1 p2 : Nat} {a1 a2 : Option Addr} {n c1 c2 : Nat} {ms : List Int} {cur cur' : World}
theorem TwoRes.lt1 (h : TwoRes w c zs p1 p2 a1 a2 n c1 c2 ms cur) : p1 < cur.heap.size := cell_lt h.x0
theorem TwoRes.lt2 (h : TwoRes w c zs p1 p2 a1 a2 n c1 c2 ms cur) : p2 < cur.heap.size := cell_lt h.y0
theorem TwoRes.on (h : TwoRes w c zs p1 p2 a1 a2 n c1 c2 ms cur) (hb : Below cur.heap.size cur cur') : TwoRes w c zs p1 p2 a1 a2 n c1 c2 ms cur' :=
  ⟨btr h.bel hb, cell_keep hb h.x0, cell_keep hb h.x1, h.row.below (hb.mono (by have := h.lt1; omega)), cell_keep hb h.y0, cell_keep hb h.y1, h.own.below hb, h.old, h.sep, h.ahead⟩
theorem TwoRes.grew (h : TwoRes w c zs p1 p2 a1 a2 n c1 c2 ms cur) {ms' : List Int} (ho : OwnK .u8 cur' (p1 + 1) (.slice a2 n c2) ms') (hg : cur.grownBy cur' (Value.ownBlock (.slice a2 n c2))) : TwoRes w c zs p1 p2 a1 a2 n c1 c2 ms' cur' := by
  have hlo := fun k hk => (h.own.lt k hk).1
  have hp1 : some p1 ≠ Value.ownBlock (.slice a2 n c2) := fun e => by have := hlo p1 e.symm; omega
  have hp2 : some p2 ≠ Value.ownBlock (.slice a2 n c2) := fun e => by have := h.sep p2 e.symm; omega
  have l1 := h.lt1
  have hold := h.old
  refine ⟨h.bel.grown hg h.bel.size (fun k hk => by have := hlo k hk; omega), hg.cell h.x0 hp1, hg.cell h.x1 hp1, h.row.keep (fun i hi => hg.block i (by omega) (fun e => by have := hlo i e.symm; omega)), hg.cell h.y0 hp2, hg.cell h.y1 hp2, ho, h.old, h.sep, h.ahead⟩
/-- The model's answer, and then the program's, are stored. -/
theorem TwoRes.new {u1 u2 : World} {t : TypeId} (b1 : Below w.heap.size w u1) (O1 : OwnK .u8 u1 w.heap.size (.slice a1 n c1) zs) (hw : ∀ z ∈ zs, (Lit.int .u8 z).wf = true)
    (b2 : Below (u1.alloc (.cells #[.int .i64 c, .slice a1 n c1] t)).heap.size (u1.alloc (.cells #[.int .i64 c, .slice a1 n c1] t)) u2) (O2 : OwnK .u8 u2 (u1.alloc (.cells #[.int .i64 c, .slice a1 n c1] t)).heap.size (.slice a2 n c2) zs) :
    TwoRes w c zs u1.heap.size u2.heap.size a1 a2 n c1 c2 zs (u2.alloc (.cells #[.int .i64 c, .slice a2 n c2] t)) := by
  have hs := b2.size
  simp at hs
  have x0 : (u1.alloc (.cells #[.int .i64 c, .slice a1 n c1] t)).cell? ⟨u1.heap.size, 0, none⟩ = some (.int .i64 c) := by simp
  have x1 : (u1.alloc (.cells #[.int .i64 c, .slice a1 n c1] t)).cell? ⟨u1.heap.size, 1, none⟩ = some (.slice a1 n c1) := by simp
  have b3 := bal b2 (.cells #[.int .i64 c, .slice a2 n c2] t)
  have R1 := Own.row O1 hw
  refine ⟨btr (bal b1 _) b3, cell_keep b3 x0, cell_keep b3 x1, ?_, by simp, by simp, ?_, b1.size, fun k hk => (O2.lt k hk).2, by omega⟩
  · exact (R1.alloc (Nat.le_refl _) _).below (b3.mono (by simp))
  · have := O2.alloc (.cells #[.int .i64 c, .slice a2 n c2] t)
    simpa [OwnK] using this
end

end Go.Proofs.YtcnpocppgghejaaGreatDoor
namespace Go.Proofs.YtcnpocppgghejaaGreatDoor
open Go.RowKit
set_option maxRecDepth 100000
set_option linter.unusedVariables false

theorem packT_byte {n : ByteArray} {u m v : Int} (h : M.tlsaF n.data.toList u m v = 0) : ∀ z ∈ packT n u m v, M.byteB z := by
  intro z hz
  obtain ⟨hn, hu0, hu1, hm0, hm1, hv⟩ := tlsa_bounds h
  unfold packT headT at hz
  simp only [M.sumB, decide_eq_true_eq] at hv
  rcases List.mem_append.1 hz with hz | hz
  · simp only [M.two, List.cons_append, List.nil_append, List.mem_cons, List.not_mem_nil, or_false] at hz
    unfold M.byteB
    omega
  · exact M.textL_byte n z hz
/-- The first n of a slice. -/
theorem Row.upto {k : IntKind} {w : World} {B : Nat} {a : Option Addr} {len cap : Nat} {zs : List Int} (h : Row k w B a len cap zs) (n : Nat) (hn : n ≤ len) : Row k w B a n cap (zs.take n) :=
  ⟨by simp [h.length]; omega, fun z hz => h.wf z (List.mem_of_mem_take hz), Nat.le_trans hn h.fits, h.most, fun hp => by
    obtain ⟨b, off, e, hb, hc⟩ := h.cells (by omega)
    refine ⟨b, off, e, hb, fun j hj => ?_⟩
    rw [hc j (by omega)]
    simp [List.getD, hj]⟩
def DrawnData (w : World) (r : Ending) (w' : World) : Prop := ∃ a n c zs, r = .returned (.slice a n c) ∧ n ≤ 100 ∧ Row .u8 w' w'.heap.size a n c zs ∧ Below w.heap.size w w'

theorem l1Chance_any {w0 : World} {a : Option Addr} {len cap : Nat} {zs : List Int} {p : Nat} {w : World} (n : Int) (D : Draw w0 a len cap zs p w) (hp : p ≤ 1000000) :
    Calls Tryz.prog 29 #[.pointer (some ⟨w0.heap.size, 0, none⟩), .int .i64 n] w fun r w' => ∃ b : Bool, r = .returned (.bool b) ∧ Draw w0 a len cap zs (p + 1) w' ∧ Only w0.heap.size w w' := by
  go_enter Tryz.func29, Tryz.ntmps29
  go_wp2_with fail
  refine (dnext n D hp).mono ?_
  rintro r w1 ⟨x, x0, x1, rfl, D1, O1⟩
  have HD := Lib.hid (And.intro D1 O1)
  clear D D1 O1 x0 x1
  go_wp2_with fail
  go_ret
  exact ⟨_, rfl, HD.out.1, HD.out.2⟩

def DrawnMatch (w : World) (r : Ending) (w' : World) : Prop := ∃ (n : ByteArray) (u m v : Int) (s : ByteArray) (x : Int), r = .returned (.tuple #[T4 n u m v, .string s, .int .i64 x]) ∧ n.size ≤ 21 ∧ s.size ≤ 21 ∧ Below w.heap.size w w'
/-- Ahead of what is handed back: the result's block, the key's, the source. -/
structure MatchRel (w W0 : World) (a : Option Addr) (len cap : Nat) (zs : List Int) (p tb : Nat) (n : ByteArray) (u m v : Int) (cur : World) : Prop where
  draw : Draw W0 a len cap zs p cur
  bel : Below w.heap.size w cur
  res : At w.heap.size (TL4 { data := #[] } 0 0 0) cur
  one : At tb (TL4 n u m v) cur
end Go.Proofs.YtcnpocppgghejaaGreatDoor
namespace Go.Proofs.YtcnpocppgghejaaGreatDoor.M

def allB (f : Nat → Bool) : Nat → Bool
  | 0 => true
  | n + 1 => f n && allB f n
theorem allB_out {f : Nat → Bool} {n : Nat} (h : allB f n = true) {k : Nat} (hk : k < n) : f k = true := by
  induction n with
  | zero => omega
  | succ n ih =>
    simp only [allB, Bool.and_eq_true] at h
    rcases Nat.lt_or_ge k n with h1 | h1
    · exact ih h.2 h1
    · obtain rfl : k = n := by omega
      exact h.1

theorem pw_nat (v e m : Nat) : pw v e m = ((v ^ e % m : Nat) : Int) := by
  unfold pw; rw [← Int.natCast_pow, ← Int.natCast_emod]

theorem fermat_all : allB (fun v => v == 0 || v ^ 2878 % 2879 == 1) 2879 = true := by decide +kernel
theorem fermat {v : Int} (h0 : 1 ≤ v) (h1 : v ≤ 2878) : pw v 2878 2879 = 1 := by
  obtain ⟨n, rfl⟩ := Int.eq_ofNat_of_zero_le (show 0 ≤ v by omega)
  have h := allB_out fermat_all (k := n) (by omega)
  simp only [Bool.or_eq_true, beq_iff_eq] at h
  have hn : n ^ 2878 % 2879 = 1 := by
    rcases h with h | h
    · omega
    · exact h
  have := pw_nat n 2878 2879
  rw [hn] at this
  exact this

theorem inv_mul {v : Int} (h0 : 1 ≤ v) (h1 : v ≤ 2878) : v * pw v 2877 2879 % 2879 = 1 := by
  have e : pw v 1 2879 = v := pw_one (by omega) (by omega)
  have := pw_add v 1 2877 2879
  rw [e] at this
  rw [this]
  exact fermat h0 h1
theorem inv_pos {v : Int} (h0 : 1 ≤ v) (h1 : v ≤ 2878) : 1 ≤ pw v 2877 2879 ∧ pw v 2877 2879 ≤ 2878 := by
  have b := pw_bd v 2877 (m := 2879) (by omega)
  have h := inv_mul h0 h1
  have : pw v 2877 2879 ≠ 0 := by
    intro e
    rw [e, Int.mul_zero] at h
    exact absurd h (by decide)
  omega
theorem inv_inv {v : Int} (h0 : 1 ≤ v) (h1 : v ≤ 2878) : pw (pw v 2877 2879) 2877 2879 = v := by
  rw [pw_pw]
  have e : 2877 * 2877 = 2878 * 2876 + 1 := by decide
  rw [e, ← pw_add, ← pw_pw, fermat h0 h1, pw_one_base, pw_one (by omega) (by omega)]
  show 1 * v % 2879 = v
  rw [Int.one_mul]; exact Int.emod_eq_of_lt (by omega) (by omega)

theorem base_order : pw 4 1439 2879 = 1 := by
  have := pw_nat 4 1439 2879
  have e : 4 ^ 1439 % 2879 = 1 := by decide +kernel
  rw [e] at this; exact this
theorem base_all : allB (fun a => a == 0 || (2 ≤ 4 ^ a % 2879 && 4 ^ a % 2879 ≤ 2878)) 1439 = true := by decide +kernel
theorem base_pub (a : Nat) (h0 : 1 ≤ a) (h1 : a ≤ 1438) : 2 ≤ pw 4 a 2879 ∧ pw 4 a 2879 ≤ 2878 := by
  have h := allB_out base_all (k := a) (by omega)
  simp only [Bool.or_eq_true, beq_iff_eq, Bool.and_eq_true, decide_eq_true_eq] at h
  have := pw_nat 4 a 2879
  rw [show ((4 : Nat) : Int) = 4 from rfl, show ((2879 : Nat) : Int) = 2879 from rfl] at this
  rw [this]
  omega
theorem base_mod (n : Nat) : pw 4 n 2879 = pw 4 (n % 1439) 2879 := by
  have e : n = 1439 * (n / 1439) + n % 1439 := by omega
  have h : pw 4 (1439 * (n / 1439)) 2879 = 1 := by rw [← pw_pw, base_order, pw_one_base]; rfl
  have h2 := pw_add 4 (1439 * (n / 1439)) (n % 1439) 2879
  rw [h, ← e, Int.one_mul] at h2
  rw [← h2]
  have b := pw_bd 4 (n % 1439) (m := 2879) (by omega)
  exact Int.emod_eq_of_lt b.1 b.2
theorem base_raised (n : Nat) : pw (pw 4 n 2879) 1439 2879 = 1 := by
  rw [pw_pw, Nat.mul_comm, ← pw_pw, base_order, pw_one_base]; rfl
theorem gcd_all : allB (fun a => a == 0 || Nat.gcd 1439 a == 1) 1439 = true := by decide +kernel
theorem prod_mod {a b : Nat} (a0 : 1 ≤ a) (a1 : a ≤ 1438) (b0 : 1 ≤ b) (b1 : b ≤ 1438) : 1 ≤ a * b % 1439 ∧ a * b % 1439 ≤ 1438 := by
  have h := allB_out gcd_all (k := a) (by omega)
  simp only [Bool.or_eq_true, beq_iff_eq] at h
  have hg : Nat.gcd 1439 a = 1 := by omega
  have hne : a * b % 1439 ≠ 0 := by
    intro e
    have hd : 1439 ∣ b := Nat.Coprime.dvd_of_dvd_mul_left hg (Nat.dvd_of_mod_eq_zero e)
    have := Nat.le_of_dvd (by omega) hd
    omega
  have := Nat.mod_lt (a * b) (show 1439 > 0 by omega)
  omega
theorem shared_eq (a b : Nat) : pw (pw 4 b 2879) a 2879 = pw (pw 4 a 2879) b 2879 := by
  rw [pw_pw, pw_pw, Nat.mul_comm]
theorem shared_bd {a b : Nat} (a0 : 1 ≤ a) (a1 : a ≤ 1438) (b0 : 1 ≤ b) (b1 : b ≤ 1438) : 2 ≤ pw (pw 4 b 2879) a 2879 ∧ pw (pw 4 b 2879) a 2879 ≤ 2878 := by
  have h := prod_mod b0 b1 a0 a1
  rw [pw_pw, base_mod]
  exact base_pub _ h.1 h.2
theorem shared_raised (a b : Nat) : pw (pw (pw 4 b 2879) a 2879) 1439 2879 = 1 := by
  rw [pw_pw 4 b a]; exact base_raised _
end Go.Proofs.YtcnpocppgghejaaGreatDoor.M
namespace Go.Proofs.YtcnpocppgghejaaGreatDoor
open Go.RowKit

def DSecret (w0 : World) (a : Option Addr) (len cap : Nat) (zs : List Int) (p : Nat) (r : Ending) (w' : World) : Prop :=
  ∃ v : Int, 1 ≤ v ∧ v ≤ 1438 ∧ r = .returned (.int .i64 v) ∧ Draw w0 a len cap zs (p + 1) w'
theorem kfld0 (a b : Int) (w : World) : Sem.run Tryz.prog (Instr.field 111 (.agg #[.int .i64 a, .int .i64 b]) 0) w = .ok (.int .i64 a) w := by kernel_rfl
theorem kfld1 (a b : Int) (w : World) : Sem.run Tryz.prog (Instr.field 111 (.agg #[.int .i64 a, .int .i64 b]) 1) w = .ok (.int .i64 b) w := by kernel_rfl

def Secreted (w : World) (r : Ending) (w' : World) : Prop := ∃ v : Int, 1 ≤ v ∧ v ≤ 1438 ∧ r = .returned (.int .i64 v) ∧ Below w.heap.size w w'
theorem invR_form (v : Int) : invR v = (3, 0) ∨ (1 ≤ v ∧ v ≤ 2878 ∧ ∃ V, invR v = (0, V) ∧ 1 ≤ V ∧ V ≤ 2878 ∧ mulR v V 2879 = (0, 1) ∧ invR V = (0, v)) := by
  cases h : inB v 1 2878
  · exact .inl (by simp [invR, h])
  · have h' := h
    simp only [inB, decide_eq_true_eq] at h'
    refine .inr ⟨h'.1, h'.2, M.pw v 2877 2879, by simp [invR, h], ?_⟩
    have b := M.inv_pos h'.1 h'.2
    refine ⟨b.1, b.2, ?_, ?_⟩
    · have : restB v 2879 = true ∧ restB (M.pw v 2877 2879) 2879 = true := by simp only [restB, decide_eq_true_eq]; omega
      simp only [mulR, this.1, this.2, Bool.and_self, if_true, M.inv_mul h'.1 h'.2]
    · have : inB (M.pw v 2877 2879) 1 2878 = true := by simp only [inB, decide_eq_true_eq]; omega
      simp only [invR, this, if_true, M.inv_inv h'.1 h'.2]

theorem pub_base {a : Int} (a0 : 1 ≤ a) (a1 : a ≤ 1438) : pubB (M.pw 4 a.toNat 2879) = true := by
  have h := M.base_pub a.toNat (by omega) (by omega)
  simp only [pubB, inB, Bool.and_eq_true, decide_eq_true_eq, beq_iff_eq]
  exact ⟨h, M.base_raised _⟩
theorem pub_shared {a b : Int} (a0 : 1 ≤ a) (a1 : a ≤ 1438) (b0 : 1 ≤ b) (b1 : b ≤ 1438) : pubB (M.pw (M.pw 4 b.toNat 2879) a.toNat 2879) = true := by
  have h := M.shared_bd (a := a.toNat) (b := b.toNat) (by omega) (by omega) (by omega) (by omega)
  simp only [pubB, inB, Bool.and_eq_true, decide_eq_true_eq, beq_iff_eq]
  exact ⟨h, M.shared_raised _ _⟩

end Go.Proofs.YtcnpocppgghejaaGreatDoor
