/- Texts of this seat that several laws rest on, laid into one. Conditions: as each theorem states. -/
import Derived.Test.YtcolecidbalmhaaGreatDoorProg
import Derived.WalkKit
import Derived.WalkSpells
import Derived.WalkLawsBesides
import Derived.Lib.Hide
import Derived.ChangeOld
import Derived.Below
import Derived.OpenShut
import Derived.Deep.QuietTactic
import Derived.BigQuiet
import Derived.Deep.Draws
import Derived.Deep.RegionHeld3
import Derived.Deep.AppendSrc
import Derived.Deep.MidRow
import Derived.Deep.Upon
import Derived.OwnWalk
import Derived.RegionTactic
import Derived.Laws.IdiomStrings
import Derived.Lib.SlBytesConst
namespace Go.Proofs.YtcolecidbalmhaaGreatDoor
open Go.RowKit

theorem bal {w w1 : World} (h : Below w.heap.size w w1) (o : Obj) : Below w.heap.size w (w1.alloc o) := h.alloc h.size o
theorem btr {w w1 w2 : World} (h : Below w.heap.size w w1) (k : Below w1.heap.size w1 w2) : Below w.heap.size w w2 := h.trans (k.mono h.size)
theorem bset {w w1 : World} (h : Below w.heap.size w w1) {p : Addr} (hp : w.heap.size ≤ p.block) (v : Value) : Below w.heap.size w (w1.setCell p v) := h.setCell hp v
theorem bcell {W w1 : World} (hb : Below W.heap.size W w1) : (∀ b o, b < W.heap.size → w1.cell? ⟨b, o, none⟩ = W.cell? ⟨b, o, none⟩) ∧ (∀ b o, b < W.heap.size → w1.frozen? ⟨b, o, none⟩ = W.frozen? ⟨b, o, none⟩) :=
  ⟨fun b o h => hb.cell (p := ⟨b, o, none⟩) h, fun b o h => hb.frozen (p := ⟨b, o, none⟩) h⟩
theorem bdrewN {B : Nat} {w w1 : World} (h : Below B w w1) (n : Nat) : Below B w (w1.drewN n) := ⟨h.os, h.tape, h.output, h.size, h.block⟩

theorem cell_lt {w : World} {p : Addr} {v : Value} (h : w.cell? p = some v) : p.block < w.heap.size := by
  rcases Nat.lt_or_ge p.block w.heap.size with h1 | h1
  · exact h1
  · unfold World.cell? at h; rw [Array.getElem?_eq_none h1] at h; cases h
/-- A cell that is there stays so. -/
theorem cell_keep {w w' : World} (hb : Below w.heap.size w w') {p : Addr} {v : Value} (h : w.cell? p = some v) : w'.cell? p = some v := (hb.cell (cell_lt h)).trans h

/-- Block g alone may have turned; no block has come. -/
structure Only (g : Nat) (w w' : World) : Prop where
  os : w'.os = w.os
  tape : w'.tape = w.tape
  output : w'.output = w.output
  size : w'.heap.size = w.heap.size
  block : ∀ k, k ≠ g → w'.heap[k]? = w.heap[k]?
theorem Only.refl (g : Nat) (w : World) : Only g w w := ⟨rfl, rfl, rfl, rfl, fun _ _ => rfl⟩
theorem Only.trans {g : Nat} {a b c : World} (h : Only g a b) (k : Only g b c) : Only g a c :=
  ⟨k.os.trans h.os, k.tape.trans h.tape, k.output.trans h.output, k.size.trans h.size, fun i hi => (k.block i hi).trans (h.block i hi)⟩
theorem Only.drewN {g : Nat} {a b : World} (h : Only g a b) (n : Nat) : Only g a (b.drewN n) := ⟨h.os, h.tape, h.output, h.size, h.block⟩
theorem Only.setCell {g : Nat} {a b : World} (h : Only g a b) (o : Nat) (u : Value) : Only g a (b.setCell ⟨g, o, none⟩ u) :=
  h.trans ⟨rfl, rfl, rfl, by simp [World.setCell], fun k hk => Below.heap_setCell _ _ _ _ hk⟩
theorem Only.below {g B : Nat} {a b : World} (h : Only g a b) (hB : B ≤ g) : Below B a b :=
  ⟨h.os, h.tape, h.output, by rw [h.size]; exact Nat.le_refl _, fun k hk => h.block k (by omega)⟩

/-- A slice of whole numbers that is read: 'zs' are its elements; it lies below block B. -/
structure Row (k : IntKind) (w : World) (B : Nat) (a : Option Addr) (len cap : Nat) (zs : List Int) : Prop where
  length : zs.length = len
  wf : ∀ z ∈ zs, (Lit.int k z).wf = true
  fits : len ≤ cap
  most : cap ≤ maxLen
  cells : 0 < len → ∃ b off, a = some ⟨b, off, none⟩ ∧ b < B ∧ ∀ j, j < len → w.cell? ⟨b, off + j, none⟩ = some (.int k (zs.getD j 0))
theorem Row.keep {k : IntKind} {w w' : World} {B : Nat} {a : Option Addr} {len cap : Nat} {zs : List Int} (h : Row k w B a len cap zs) (hk : ∀ i, i < B → w'.heap[i]? = w.heap[i]?) : Row k w' B a len cap zs :=
  ⟨h.length, h.wf, h.fits, h.most, fun hp => by
    obtain ⟨b, off, e, hb, hc⟩ := h.cells hp
    exact ⟨b, off, e, hb, fun j hj => (World.cell?_of_block (w := w) (hk b hb)).trans (hc j hj)⟩⟩
theorem Row.below {k : IntKind} {w w' : World} {B : Nat} {a : Option Addr} {len cap : Nat} {zs : List Int} (h : Row k w B a len cap zs) (hb : Below B w w') : Row k w' B a len cap zs := h.keep hb.block
theorem Row.more {k : IntKind} {w : World} {B B' : Nat} {a : Option Addr} {len cap : Nat} {zs : List Int} (h : Row k w B a len cap zs) (hB : B ≤ B') : Row k w B' a len cap zs :=
  ⟨h.length, h.wf, h.fits, h.most, fun hp => by
    obtain ⟨b, off, e, hb, hc⟩ := h.cells hp
    exact ⟨b, off, e, by omega, hc⟩⟩
theorem Row.byte {w : World} {B : Nat} {a : Option Addr} {len cap : Nat} {zs : List Int} (h : Row .u8 w B a len cap zs) (j : Nat) : 0 ≤ zs.getD j 0 ∧ zs.getD j 0 ≤ 255 := by
  rcases Nat.lt_or_ge j zs.length with hj | hj
  · have hm := h.wf (zs[j]) (List.getElem_mem hj)
    have e : zs.getD j 0 = zs[j] := by simp [List.getD, hj]
    rw [e]
    simp [Lit.wf, IntKind.min, IntKind.max, IntKind.signed, IntKind.bits] at hm
    omega
  · have e : zs.getD j 0 = 0 := by simp [List.getD, hj]
    rw [e]; omega

theorem Row.of_open {k : IntKind} {w : World} {x : Addr} {l c : Nat} {zs : List Int} (hl : l ≤ c) (hm : c ≤ maxLen) (hz : zs.length = c)
    (hcell : ∀ i, i < zs.length → w.cell? (x.add i) = some (.int k (zs.getD i 0))) (hw : ∀ n ∈ zs, (Lit.int k n).wf = true) : Row k w w.heap.size (some x) l c (zs.take l) :=
  ⟨by simp; omega, fun z h => hw z (List.mem_of_mem_take h), hl, hm, fun hp => by
    obtain ⟨b, off, rfl, hc⟩ := ints_at hcell (by omega)
    refine ⟨b, off, rfl, cell_lt (hc 0 (by omega)), fun j hj => ?_⟩
    rw [hc j (by omega)]
    simp [List.getD, hj]⟩
theorem Row.nil (k : IntKind) (w : World) (B : Nat) : Row k w B none 0 0 [] := ⟨rfl, (fun _ h => by cases h), Nat.le_refl _, Nat.zero_le _, fun h => absurd h (by omega)⟩
end Go.Proofs.YtcolecidbalmhaaGreatDoor
namespace Go.Proofs.YtcolecidbalmhaaGreatDoor
open Go.RowKit

/-- The slice v holds n elements, the cells xs; it is nil, or lies at the head of a block from B on; all that it has room for is there and may be written. -/
def Own (w : World) (B size : Nat) (v : Value) (n : Nat) (xs : List Value) : Prop :=
  xs.length = n * size ∧ ((v = .slice none 0 0 ∧ n = 0) ∨
    ∃ g cap, v = .slice (some ⟨g, 0, none⟩) n cap ∧ B ≤ g ∧ g < w.heap.size ∧ n ≤ cap ∧ cap ≤ maxLen ∧
      (∀ j u, xs[j]? = some u → w.cell? ⟨g, j, none⟩ = some u) ∧ (∀ j, j < cap * size → (w.cell? ⟨g, j, none⟩).isSome = true ∧ w.frozen? ⟨g, j, none⟩ = false))

section
variable {w w' : World} {B size : Nat} {v : Value} {n : Nat} {xs : List Value}

theorem Own.nil (w : World) (B size : Nat) : Own w B size (.slice none 0 0) 0 [] := ⟨by simp, .inl ⟨rfl, rfl⟩⟩
theorem Own.lt (h : Own w B size v n xs) : ∀ k, v.ownBlock = some k → B ≤ k ∧ k < w.heap.size := by
  intro k hk
  rcases h.2 with ⟨rfl, _⟩ | ⟨g, cap, rfl, hb, hg, _⟩
  · simp [Value.ownBlock] at hk
  · simp [Value.ownBlock] at hk
    subst hk
    exact ⟨hb, hg⟩
theorem Own.keep (h : Own w B size v n xs) (hs : w.heap.size ≤ w'.heap.size) (hk : ∀ k, v.ownBlock = some k → w'.heap[k]? = w.heap[k]?) : Own w' B size v n xs := by
  refine ⟨h.1, ?_⟩
  rcases h.2 with hn | ⟨g, cap, rfl, hb, hg, h1, h2, hc, hf⟩
  · exact .inl hn
  · have e : w'.heap[g]? = w.heap[g]? := hk g rfl
    exact .inr ⟨g, cap, rfl, hb, by omega, h1, h2, fun j u hu => (World.cell?_of_block (w := w) e).trans (hc j u hu), fun j hj => by
      rw [World.cell?_of_block (w := w) (a := ⟨g, j, none⟩) e, World.frozen?_of_block (w := w) (a := ⟨g, j, none⟩) e]
      exact hf j hj⟩
theorem Own.below (h : Own w B size v n xs) (hb : Below w.heap.size w w') : Own w' B size v n xs :=
  h.keep hb.size fun k hk => hb.block k (h.lt k hk).2
theorem Own.alloc (h : Own w B size v n xs) (o : Obj) : Own (w.alloc o) B size v n xs :=
  h.keep (by simp) fun k hk => Below.heap_alloc w o k (h.lt k hk).2
theorem Own.drew (h : Own w B size v n xs) : Own w.drew B size v n xs := h
theorem Own.drewN (h : Own w B size v n xs) (k : Nat) : Own (w.drewN k) B size v n xs := h
theorem Own.setCell (h : Own w B size v n xs) {p : Addr} (hp : ∀ k, v.ownBlock = some k → k ≠ p.block) (u : Value) : Own (w.setCell p u) B size v n xs :=
  h.keep (by simp [World.setCell]) fun k hk => Below.heap_setCell w p u k (hp k hk)
theorem Own.kept {row : Option Nat} (h : Own w B size v n xs) (hg : w.grownBy w' row) (hne : v.ownBlock = none ∨ v.ownBlock ≠ row) : Own w' B size v n xs :=
  h.keep hg.size fun k hk => hg.block k (h.lt k hk).2 (by rcases hne with e | e <;> simp_all)
theorem Own.less {B' : Nat} (h : Own w B size v n xs) (hB : B' ≤ B) : Own w B' size v n xs := by
  refine ⟨h.1, ?_⟩
  rcases h.2 with hn | ⟨g, cap, rfl, hb, rest⟩
  · exact .inl hn
  · exact .inr ⟨g, cap, rfl, by omega, rest⟩
theorem Own.fits (h : Own w B size v n xs) : n ≤ maxLen := by
  rcases h.2 with ⟨_, rfl⟩ | ⟨g, cap, _, _, _, h1, h2, _⟩
  · exact Nat.zero_le _
  · omega
/-- Its value, written out. -/
theorem Own.form (h : Own w B size v n xs) : ∃ a cap, v = .slice a n cap ∧ n ≤ cap ∧ cap ≤ maxLen ∧ (a = none → n = 0 ∧ cap = 0) := by
  rcases h.2 with ⟨rfl, rfl⟩ | ⟨g, cap, rfl, _, _, h1, h2, _⟩
  · exact ⟨none, 0, rfl, Nat.le_refl _, Nat.zero_le _, fun _ => ⟨rfl, rfl⟩⟩
  · exact ⟨_, cap, rfl, h1, h2, fun h => by cases h⟩

/-- A slice of whole numbers that is owned can be read. -/
theorem Own.row {k : IntKind} {zs : List Int} {a : Option Addr} {len cap : Nat} (h : Own w B 1 (.slice a len cap) n (zs.map (Value.int k))) (hw : ∀ z ∈ zs, (Lit.int k z).wf = true) : Row k w w.heap.size a len cap zs := by
  have hl := h.1
  simp at hl
  rcases h.2 with ⟨e, rfl⟩ | ⟨g, c, e, hb, hg, h1, h2, hc, _⟩
  · injection e with e1 e2 e3
    subst e1; subst e2; subst e3
    obtain rfl : zs = [] := List.eq_nil_of_length_eq_zero hl
    exact Row.nil _ _ _
  · injection e with e1 e2 e3
    subst e1; subst e2; subst e3
    exact ⟨hl, hw, h1, h2, fun hp => ⟨g, 0, rfl, hg, fun j hj => by
      rw [Nat.zero_add]
      exact hc j _ (by simp [List.getD, show j < zs.length by omega])⟩⟩

/-- A block that was just made, with room for cap. -/
theorem Own.made (w : World) (cur : Array Value) (e : TypeId) (cap : Nat) (hb : B ≤ w.heap.size) (hm : cap ≤ maxLen) (hs : cur.size = cap * size) :
    Own (w.alloc (.cells cur e)) B size (.slice (some ⟨w.heap.size, 0, none⟩) 0 cap) 0 [] := by
  have e1 : (w.alloc (.cells cur e)).heap[w.heap.size]? = some (.cells cur e) := (MapKept.heap_alloc w _).1
  refine ⟨by simp, .inr ⟨w.heap.size, cap, rfl, hb, by simp, Nat.zero_le _, hm, by simp, fun j hj => ?_⟩⟩
  unfold World.cell? World.frozen?
  rw [e1]
  simp [show j < cur.size by omega]

/-- The bytes of a text, newly laid: the block is marked behind its end alone. -/
theorem Own.bytes (w : World) (cur : Array Value) (e : TypeId) (cap : Nat) (xs : List Value) (hb : B ≤ w.heap.size) (hn : n ≤ cap) (hm : cap ≤ maxLen) (hs : cur.size = cap) (hl : xs.length = n) (hx : cur.toList.take n = xs) (m1 : Nat) :
    Own (w.alloc (.cells cur e (cur.size, m1))) B 1 (.slice (some ⟨w.heap.size, 0, none⟩) n cap) n xs := by
  have e1 : (w.alloc (.cells cur e (cur.size, m1))).heap[w.heap.size]? = some (.cells cur e (cur.size, m1)) := (MapKept.heap_alloc w _).1
  refine ⟨by simp [hl], .inr ⟨w.heap.size, cap, rfl, hb, by simp, hn, hm, fun j u hu => ?_, fun j hj => ?_⟩⟩
  · unfold World.cell?
    rw [e1]
    rw [← hx, List.getElem?_take] at hu
    split at hu
    · simpa using hu
    · cases hu
  · unfold World.cell? World.frozen?
    rw [e1]
    simp [show j < cur.size by omega]
    intro h
    omega
end

section
variable {P : Program} (w : World)

/-- WHAT AN append MAKES OF IT, whatever is appended. -/
theorem run_append_src (B : Nat) (t tx ty e : TypeId) (i : TypeInfo) (z : Value) (size bytes : Nat) (ht : P.underlying t = some (.slice e)) (hi : P.info? e = some i) (hz : i.zero = some z)
    (hsize : i.size = size) (hby : i.bytes = bytes) (hzs : z.cells.size = size)
    (v : Value) (n : Nat) (xs : List Value) (hown : Own w B size v n xs)
    (x : Value) (m : Nat) (news : List Value) (hs : Go.Src P size tx x m news w)
    (h63 : n + m ≤ maxLen) (hbytes : (n + m) * bytes ≤ 140737488355328) (hB : B ≤ w.heap.size) :
    ∃ v' w', (Builtin.append_ #[t, tx] ty #[v, x]).run P w = .ok v' w' ∧ Own w' B size v' (n + m) (xs ++ news) ∧ w.grownBy w' v.ownBlock ∧ (v'.ownBlock = v.ownBlock ∨ v'.ownBlock = some w.heap.size) := by
  subst hsize
  subst hby
  have hlen : (xs ++ news).length = (n + m) * i.size := by rw [List.length_append, hown.1, hs.newsLen, Nat.add_mul]
  have grown : ∀ (old : Nat) (row : Option Nat),
      Own (w.drew.alloc (.cells ((xs ++ news).toArray ++ Builtin.zeroCells z.cells (grownCap w (n + m) old e - (n + m))) e)) B i.size
        (.slice (some ⟨w.heap.size, 0, none⟩) (n + m) (grownCap w (n + m) old e)) (n + m) (xs ++ news) ∧
      w.grownBy (w.drew.alloc (.cells ((xs ++ news).toArray ++ Builtin.zeroCells z.cells (grownCap w (n + m) old e - (n + m))) e)) row := by
    intro old row
    have hge := grownCap_ge w (n + m) old e
    have hcm : grownCap w (n + m) old e ≤ maxLen := grownCap_le_maxLen w (n + m) old e h63
    have e1 := (MapKept.heap_alloc w.drew (.cells ((xs ++ news).toArray ++ Builtin.zeroCells z.cells (grownCap w (n + m) old e - (n + m))) e)).1
    have e2 : w.drew.heap.size = w.heap.size := rfl
    rw [e2] at e1
    refine ⟨⟨hlen, .inr ⟨w.heap.size, _, rfl, hB, by simp, hge, hcm, fun j u hu => ?_, fun j hj => ?_⟩⟩, ⟨rfl, rfl, rfl, by simp, fun k hk _ => Below.heap_alloc w.drew _ k hk⟩⟩
    · unfold World.cell?
      rw [e1]
      have hj := (List.getElem?_eq_some_iff.1 hu).1
      simp only [Array.getElem?_append, List.size_toArray, hj, if_true]
      simpa using hu
    · have hsz : j < ((xs ++ news).toArray ++ Builtin.zeroCells z.cells (grownCap w (n + m) old e - (n + m))).size := by
        simp only [Array.size_append, List.size_toArray, size_zeroCells, hzs, hlen, ← Nat.add_mul]
        rw [Nat.add_sub_cancel' hge]
        exact hj
      unfold World.cell? World.frozen?
      rw [e1]
      simp only [Array.getElem?_eq_getElem hsz]
      simp
  rcases hown.2 with ⟨rfl, rfl⟩ | ⟨g, cap, rfl, hbg, hgl, hnc, hcm, hcell, hroomc⟩
  · have hx : xs = [] := List.eq_nil_of_length_eq_zero (by simpa using hown.1)
    subst hx
    by_cases hm : m = 0
    · subst hm
      have hn : news = [] := List.eq_nil_of_length_eq_zero (by simpa using hs.newsLen)
      subst hn
      refine ⟨.slice none 0 0, w, ?_, Own.nil w B i.size, ⟨rfl, rfl, rfl, Nat.le_refl _, fun _ _ _ => rfl⟩, .inl rfl⟩
      rcases hs.kind with ⟨e', hk⟩ | hk <;> simp [Builtin.append_, run_underlying ht, run_underlying hk, sizeOf, typeInfo, hi, hs.len, hs.cells]
    · have hr := run_append_grow_src (P := P) w t tx ty e i z ht hi hz none 0 0 [] (run_firstCells_none w.drew i.size 0 0 0) x m news hs (by omega) (by simp only [maxLen] at h63; omega) (growslice_fits (by omega) hbytes)
      have hgr := grown 0 (Value.ownBlock (.slice none 0 0))
      exact ⟨_, _, hr, hgr.1, hgr.2, .inr rfl⟩
  · by_cases hroom : n + m ≤ cap
    · have hfit : ∀ j, j < news.length → n * i.size + j < cap * i.size := by
        intro j hj
        have h1 : (n + m) * i.size ≤ cap * i.size := Nat.mul_le_mul_right _ hroom
        rw [Nat.add_mul, ← hs.newsLen] at h1
        omega
      have hr := run_append_room_src (P := P) w t tx ty e i ht hi g 0 n cap x m news hs hroom
        (fun j hj => by rw [Nat.zero_add]; exact (hroomc _ (hfit j hj)).1) (fun j hj => by rw [Nat.zero_add]; exact (hroomc _ (hfit j hj)).2)
      rw [Nat.zero_add] at hr
      have hk := World.keptBut_setCells g (may := fun _ => True) news (n * i.size) w (fun _ _ => trivial)
      have hsz : (w.setCells g (n * i.size) news).heap.size = w.heap.size := by
        have : ∀ (vs : List Value) (o : Nat) (u : World), (u.setCells g o vs).heap.size = u.heap.size := by
          intro vs
          induction vs with
          | nil => intro o u; rfl
          | cons c cs ih => intro o u; show ((u.setCell _ _).setCells g _ cs).heap.size = _; rw [ih]; simp [World.setCell]
        exact this _ _ _
      have htp : ∀ (vs : List Value) (o : Nat) (u : World), (u.setCells g o vs).tape = u.tape := by
        intro vs
        induction vs with
        | nil => intro o u; rfl
        | cons c cs ih => intro o u; show ((u.setCell _ _).setCells g _ cs).tape = _; rw [ih]; rfl
      refine ⟨_, _, hr, ⟨hlen, .inr ⟨g, cap, rfl, hbg, by rw [hsz]; exact hgl, hroom, hcm, fun j u hu => ?_, fun j hj => ?_⟩⟩,
        ⟨World.os_setCells w g _ _, htp _ _ _, World.output_setCells w g _ _, by rw [hsz]; exact Nat.le_refl _, fun k hk hne => World.heap_setCells_other w g _ _ hk (fun e => hne (by simp [Value.ownBlock, e]))⟩, .inl rfl⟩
      · rcases Nat.lt_or_ge j xs.length with hj | hj
        · rw [World.cell?_setCells_out g news (n * i.size) w ⟨g, j, none⟩ (fun _ _ => .inl (by rw [← hown.1]; exact hj))]
          rw [List.getElem?_append_left hj] at hu
          exact hcell j u hu
        · rw [List.getElem?_append_right hj] at hu
          have hj2 := (List.getElem?_eq_some_iff.1 hu).1
          have key := World.cell?_setCells_in g news (n * i.size) w (fun j hj => (hroomc _ (hfit j hj)).1) (j - xs.length) hj2
          have eo : n * i.size + (j - xs.length) = j := by rw [← hown.1]; omega
          rw [eo] at key
          rw [key]
          rw [List.getElem?_eq_getElem hj2] at hu
          exact hu
      · refine ⟨World.isSome_setCells g news _ w _ (hroomc j hj).1, ?_⟩
        rw [World.frozen?_setCells]
        exact (hroomc j hj).2
    · have hold : (Builtin.firstCells i.size n (.slice (some ⟨g, 0, none⟩) n cap)).run P w.drew = .ok xs.toArray w.drew :=
        run_firstCells_some w.drew i.size n ⟨g, 0, none⟩ n cap xs hown.1 (fun j u hu => by
          have := hcell j u hu
          rw [Addr.add_lit, Nat.zero_add]
          exact this)
      have hr := run_append_grow_src (P := P) w t tx ty e i z ht hi hz (some ⟨g, 0, none⟩) n cap xs hold x m news hs (by omega) (by simp only [maxLen] at h63; omega) (growslice_fits (by omega) hbytes)
      have hgr := grown cap (Value.ownBlock (.slice (some ⟨g, 0, none⟩) n cap))
      exact ⟨_, _, hr, hgr.1, hgr.2, .inr rfl⟩

theorem wp_append_src {o : Oper} {a : Act} {K : Act → World → Prop} {Q : Exit → Act → World → Prop} (s y : Operand) (t tx : TypeId)
    (ho : o.op = .call { callee := .builtin .append, args := #[s, y], argTypes := #[t, tx] })
    (B : Nat) (e : TypeId) (i : TypeInfo) (z : Value) (size bytes : Nat) (ht : P.underlying t = some (.slice e)) (hi : P.info? e = some i) (hz : i.zero = some z)
    (hsize : i.size = size) (hby : i.bytes = bytes) (hzs : z.cells.size = size)
    (v : Value) (n : Nat) (xs : List Value) (hsv : a.eval s = v) (hown : Own w B size v n xs)
    (x : Value) (m : Nat) (news : List Value) (hx : a.eval y = x) (hs : Go.Src P size tx x m news w)
    (h63 : n + m ≤ maxLen) (hbytes : (n + m) * bytes ≤ 140737488355328) (hB : B ≤ w.heap.size)
    (h : ∀ v' w', Own w' B size v' (n + m) (xs ++ news) → w.grownBy w' v.ownBlock → (v'.ownBlock = v.ownBlock ∨ v'.ownBlock = some w.heap.size) → K (a.put o.dst v') w') : o.wp P a w K Q := by
  obtain ⟨v', w', hr, h2, h3, h4⟩ := run_append_src (P := P) w B t tx o.type e i z size bytes ht hi hz hsize hby hzs v n xs hown x m news hs h63 hbytes hB
  unfold Oper.wp execOp
  simp only [ho, resolve, invoke, builtin, Sem.run_bind, Sem.run_pure, Result.andThen_ok, List.map_toArray, List.map_cons, List.map_nil, hsv, hx, hr]
  exact h v' w' h2 h3 h4

theorem wpList_append_src {ops : Array Oper} {rest : List Oper} {o : Oper} {a : Act} {Q : Exit → Act → World → Prop} (hgd : o.guard = none) (s y : Operand) (t tx : TypeId)
    (ho : o.op = .call { callee := .builtin .append, args := #[s, y], argTypes := #[t, tx] })
    (B : Nat) (e : TypeId) (i : TypeInfo) (z : Value) (size bytes : Nat) (ht : P.underlying t = some (.slice e)) (hi : P.info? e = some i) (hz : i.zero = some z)
    (hsize : i.size = size) (hby : i.bytes = bytes) (hzs : z.cells.size = size)
    (v : Value) (n : Nat) (xs : List Value) (hsv : a.eval s = v) (hown : Own w B size v n xs)
    (x : Value) (m : Nat) (news : List Value) (hx : a.eval y = x) (hs : Go.Src P size tx x m news w)
    (h63 : n + m ≤ maxLen) (hbytes : (n + m) * bytes ≤ 140737488355328) (hB : B ≤ w.heap.size)
    (h : ∀ v' w', Own w' B size v' (n + m) (xs ++ news) → w.grownBy w' v.ownBlock → (v'.ownBlock = v.ownBlock ∨ v'.ownBlock = some w.heap.size) → wpList P ops Q rest (a.put o.dst v') w') : wpList P ops Q (o :: rest) a w :=
  wpList_plain hgd fun _ hK => wp_append_src w s y t tx ho B e i z size bytes ht hi hz hsize hby hzs v n xs hsv hown x m news hx hs h63 hbytes hB fun v' w' h2 h3 h4 => hK _ _ (h v' w' h2 h3 h4)

end

end Go.Proofs.YtcolecidbalmhaaGreatDoor
namespace Go.Proofs.YtcolecidbalmhaaGreatDoor.M

theorem emod_mul (a b m : Int) : a % m * (b % m) % m = a * b % m := (Int.mul_emod a b m).symm
theorem emod_mul_l (a b m : Int) : a % m * b % m = a * b % m := by rw [Int.mul_emod, Int.emod_emod, ← Int.mul_emod]
/-- What m leaves of a to the pow e. -/
def pw (a : Int) (e : Nat) (m : Int) : Int := a ^ e % m

theorem pw_bd (a : Int) (e : Nat) {m : Int} (h : 1 ≤ m) : 0 ≤ pw a e m ∧ pw a e m < m :=
  ⟨Int.emod_nonneg _ (by omega), Int.emod_lt_of_pos _ (by omega)⟩
theorem pw_zero (a m : Int) : pw a 0 m = 1 % m := by unfold pw; rw [Int.pow_zero]
theorem pw_one {a m : Int} (h0 : 0 ≤ a) (h : a < m) : pw a 1 m = a := by
  unfold pw; rw [Int.pow_succ, Int.pow_zero, Int.one_mul]; exact Int.emod_eq_of_lt h0 h
theorem pw_add (a : Int) (e f : Nat) (m : Int) : pw a e m * pw a f m % m = pw a (e + f) m := by
  unfold pw; rw [emod_mul, Int.pow_add]
theorem pw_base (a : Int) (e : Nat) (m : Int) : pw (a % m) e m = pw a e m := by
  unfold pw
  induction e with
  | zero => rw [Int.pow_zero, Int.pow_zero]
  | succ n ih => rw [Int.pow_succ, Int.pow_succ, Int.mul_emod, ih, Int.emod_emod, ← Int.mul_emod]
theorem pw_pw (a : Int) (e f : Nat) (m : Int) : pw (pw a e m) f m = pw a (e * f) m := by
  show pw (a ^ e % m) f m = _
  rw [pw_base]; unfold pw; rw [Int.pow_mul]
theorem pw_one_base (e : Nat) (m : Int) : pw 1 e m = 1 % m := by unfold pw; rw [Int.one_pow]

/-- a round of the loop over bits, the bit is 1. -/
theorem bit_one (a : Int) (e k : Nat) (m : Int) (h : e / 2 ^ k % 2 = 1) : pw a (e % 2 ^ k) m * pw a (2 ^ k) m % m = pw a (e % 2 ^ (k + 1)) m := by
  rw [pw_add]; congr 1
  rw [Nat.pow_succ, Nat.mod_mul, h, Nat.mul_one]
theorem bit_zero (a : Int) (e k : Nat) (m : Int) (h : e / 2 ^ k % 2 = 0) : pw a (e % 2 ^ k) m = pw a (e % 2 ^ (k + 1)) m := by
  congr 1
  rw [Nat.pow_succ, Nat.mod_mul, h, Nat.mul_zero, Nat.add_zero]
theorem square (a : Int) (k : Nat) (m : Int) : pw a (2 ^ k) m * pw a (2 ^ k) m % m = pw a (2 ^ (k + 1)) m := by
  rw [pw_add]; congr 1; rw [Nat.pow_succ]; omega

/-- what the loop of the model keeps: n times a to the e is the answer. -/
def Keep (A : Int) (E : Nat) (m n a : Int) (e : Nat) : Prop := n * a ^ e % m = A ^ E % m
theorem keep_start (A : Int) (E : Nat) (m : Int) : Keep A E m (1 % m) A E := by
  unfold Keep; rw [emod_mul_l, Int.one_mul]
theorem keep_odd {A : Int} {E : Nat} {m n a : Int} {e : Nat} (h : Keep A E m n a e) (ho : e % 2 = 1) : Keep A E m (n * a % m) (a * a % m) (e / 2) := by
  unfold Keep at *
  have h1 : (a * a % m) ^ (e / 2) % m = (a * a) ^ (e / 2) % m := pw_base (a * a) (e / 2) m
  rw [Int.mul_emod, h1, Int.emod_emod, ← Int.mul_emod, ← h]
  congr 1
  rw [show a * a = a ^ 2 from by rw [Int.pow_succ, Int.pow_succ, Int.pow_zero, Int.one_mul], ← Int.pow_mul, Int.mul_assoc]
  congr 1
  rw [← Int.pow_succ']; congr 1; omega
theorem keep_even {A : Int} {E : Nat} {m n a : Int} {e : Nat} (h : Keep A E m n a e) (ho : e % 2 = 0) : Keep A E m n (a * a % m) (e / 2) := by
  unfold Keep at *
  have h1 : (a * a % m) ^ (e / 2) % m = (a * a) ^ (e / 2) % m := pw_base (a * a) (e / 2) m
  rw [Int.mul_emod, h1, ← Int.mul_emod, ← h]
  congr 1
  rw [show a * a = a ^ 2 from by rw [Int.pow_succ, Int.pow_succ, Int.pow_zero, Int.one_mul], ← Int.pow_mul]
  congr 2; omega
theorem keep_end {A : Int} {E : Nat} {m n a : Int} (h : Keep A E m n a 0) (h0 : 0 ≤ n) (h1 : n < m) : n = pw A E m := by
  unfold Keep at h
  rw [Int.pow_zero, Int.mul_one, Int.emod_eq_of_lt h0 h1] at h
  exact h
theorem mul_bd {x y M : Int} (hx : 0 ≤ x) (hx' : x < M) (hy : 0 ≤ y) (hy' : y < M) (hM : M ≤ 1000000) : 0 ≤ x * y ∧ x * y ≤ 1000000000000 := by
  refine ⟨Int.mul_nonneg hx hy, ?_⟩
  calc x * y ≤ 1000000 * 1000000 := Int.mul_le_mul (by omega) (by omega) hy (by omega)
    _ = 1000000000000 := by decide
theorem mod_bd (x : Int) {m : Int} (h : 1 ≤ m) : 0 ≤ x % m ∧ x % m < m := ⟨Int.emod_nonneg _ (by omega), Int.emod_lt_of_pos _ (by omega)⟩
theorem prod2 (x y m : Int) : 1 % m * x % m * y % m = x * y % m := by rw [emod_mul_l 1 x m, Int.one_mul, emod_mul_l]
end Go.Proofs.YtcolecidbalmhaaGreatDoor.M
namespace Go.Proofs.YtcolecidbalmhaaGreatDoor.M

def sumStep (n b : Int) : Int := (n * 251 + b + 1) % 65521
/-- The sum of bytes. -/
def sumL (zs : List Int) : Int := zs.foldl sumStep 17
theorem sumFold_bd : ∀ (zs : List Int) (n : Int), 0 ≤ n → n < 65521 → 0 ≤ zs.foldl sumStep n ∧ zs.foldl sumStep n < 65521
  | [], n, h0, h1 => ⟨h0, h1⟩
  | b :: r, n, _, _ => sumFold_bd r _ (Int.emod_nonneg _ (by omega)) (Int.emod_lt_of_pos _ (by omega))
theorem sumL_bd (zs : List Int) : 0 ≤ sumL zs ∧ sumL zs < 65521 := sumFold_bd zs 17 (by omega) (by omega)
theorem sumL_snoc (zs : List Int) (b : Int) : sumL (zs ++ [b]) = (sumL zs * 251 + b + 1) % 65521 := by
  simp [sumL, List.foldl_append, sumStep]
theorem take_snoc {α : Type} (zs : List α) (d : α) (k : Nat) (h : k < zs.length) : zs.take (k + 1) = zs.take k ++ [zs[k]?.getD d] := by
  rw [List.take_succ_eq_append_getElem h]; simp [h]
theorem sumL_take (zs : List Int) (k : Nat) (h : k < zs.length) : (sumL (zs.take k) * 251 + zs[k]?.getD 0 + 1) % 65521 = sumL (zs.take (k + 1)) := by
  rw [take_snoc zs 0 k h, sumL_snoc]

/-- A byte a to z. -/
def lowB (c : UInt8) : Bool := decide (97 ≤ (c.toNat : Int) ∧ (c.toNat : Int) ≤ 122)
def lowTo (s : ByteArray) (k : Nat) : Bool := (s.data.toList.take k).all lowB
/-- A label: 1 to 12 bytes a to z. -/
def labB (s : ByteArray) : Bool := decide (1 ≤ s.size ∧ s.size ≤ 12) && lowTo s s.size
theorem data_take (s : ByteArray) (k : Nat) (h : k < s.size) : s.data.toList.take (k + 1) = s.data.toList.take k ++ [s[k]] := by
  rw [List.take_succ_eq_append_getElem (by simpa using h)]; rfl
/-- A sum. -/
def sumB (v : Int) : Bool := decide (0 ≤ v ∧ v ≤ 65520)
/-- The bytes of a text. -/
def textL (s : ByteArray) : List Int := s.data.toList.map fun c => (c.toNat : Int)
def two (n : Int) : List Int := [n / 256, n % 256]
/-- A tag, a byte 0, and each number in two bytes. -/
def tagBytes (s : ByteArray) (zs : List Int) : List Int := textL s ++ [0] ++ zs.flatMap two
def tagL (s : ByteArray) (zs : List Int) : Int := sumL (tagBytes s zs)
theorem tagBytes_nil (s : ByteArray) : tagBytes s [] = textL s ++ [0] := by simp [tagBytes]
theorem tagBytes_snoc (s : ByteArray) (zs : List Int) (n : Int) : tagBytes s (zs ++ [n]) = tagBytes s zs ++ two n := by
  simp [tagBytes, List.flatMap_append]
theorem tagBytes_take (s : ByteArray) (zs : List Int) (k : Nat) (h : k < zs.length) : tagBytes s (zs.take k) ++ two (zs[k]?.getD 0) = tagBytes s (zs.take (k + 1)) := by
  rw [take_snoc zs 0 k h, tagBytes_snoc]
theorem textL_length (s : ByteArray) : (textL s).length = s.size := by simp [textL]
theorem two_length (zs : List Int) : (zs.flatMap two).length = 2 * zs.length := by
  induction zs with
  | nil => rfl
  | cons a r ih => simp only [List.flatMap_cons, List.length_append, ih, two, List.length_cons, List.length_nil]; omega
theorem tagBytes_length (s : ByteArray) (zs : List Int) : (tagBytes s zs).length = s.size + 1 + 2 * zs.length := by
  simp only [tagBytes, List.length_append, textL_length, two_length, List.length_cons, List.length_nil]
def byteB (b : Int) : Prop := 0 ≤ b ∧ b ≤ 255
theorem two_byte {n : Int} (h : sumB n = true) : ∀ b ∈ two n, byteB b := by
  simp only [sumB, decide_eq_true_eq] at h
  intro b hb
  simp only [two, List.mem_cons, List.not_mem_nil, or_false] at hb
  unfold byteB
  omega
theorem textL_byte (s : ByteArray) : ∀ b ∈ textL s, byteB b := by
  intro b hb
  simp only [textL, List.mem_map] at hb
  obtain ⟨c, _, rfl⟩ := hb
  have := c.toNat_lt
  unfold byteB
  omega
theorem tagBytes_byte (s : ByteArray) (zs : List Int) (h : ∀ z ∈ zs, sumB z = true) : ∀ b ∈ tagBytes s zs, byteB b := by
  intro b hb
  simp only [tagBytes, List.mem_append, List.mem_cons, List.not_mem_nil, or_false, List.mem_flatMap] at hb
  rcases hb with (hb | rfl) | ⟨a, ha, hb⟩
  · exact textL_byte s b hb
  · unfold byteB; omega
  · exact two_byte (h a ha) b hb
theorem tagL_bd (s : ByteArray) (zs : List Int) : 0 ≤ tagL s zs ∧ tagL s zs < 65521 := sumL_bd _

def sumR (zs : List Int) : Int × Int := if 1000 < zs.length then (2, 0) else (0, sumL zs)
def tagR (s : ByteArray) (zs : List Int) : Int × Int :=
  if labB s = false then (5, 0) else if 40 < zs.length then (2, 0) else if zs.all sumB then (0, tagL s zs) else (3, 0)
def keyD (k : Int) (s : ByteArray) : Int × Int := if sumB k = false then (3, 0) else if labB s = false then (5, 0) else (0, tagL s [k])
end Go.Proofs.YtcolecidbalmhaaGreatDoor.M
namespace Go.Proofs.YtcolecidbalmhaaGreatDoor.M

abbrev streamS : ByteArray := { data := #[115, 116, 114, 101, 97, 109] }
abbrev heardS : ByteArray := { data := #[104, 101, 97, 114, 100] }
abbrev nonceS : ByteArray := { data := #[110, 111, 110, 99, 101] }
abbrev signS : ByteArray := { data := #[115, 105, 103, 110] }
abbrev macS : ByteArray := { data := #[109, 97, 99] }
abbrev sealS : ByteArray := { data := #[115, 101, 97, 108] }
abbrev spkiS : ByteArray := { data := #[115, 112, 107, 105] }
abbrev rollS : ByteArray := { data := #[114, 111, 108, 108] }
def streamB (key seq : Int) (i : Nat) : Int := tagL streamS [key, seq, i] % 256
/-- The first n bytes of a stream. -/
def streamL (key seq : Int) (n : Nat) : List Int := (List.range n).map (streamB key seq)
theorem streamL_succ (key seq : Int) (n : Nat) : streamL key seq (n + 1) = streamL key seq n ++ [streamB key seq n] := by simp [streamL, List.range_succ]
def strB (key seq n : Int) : Bool := sumB key && sumB seq && decide (0 ≤ n ∧ n ≤ 200)
def strC (key seq n : Int) : Int := if strB key seq n then 0 else 3
def strL (key seq n : Int) : List Int := if strB key seq n then streamL key seq n.toNat else []
def longB (zs : List Int) : Bool := decide (1000 < zs.length)
def heardL (zss : List (List Int)) : Int := tagL heardS (zss.map sumL)
def heardR (zss : List (List Int)) : Int × Int := if 10 < zss.length then (2, 0) else if zss.any longB then (2, 0) else (0, heardL zss)
theorem any_take {α : Type} (p : α → Bool) (zs : List α) (d : α) (k : Nat) (h : k < zs.length) (hk : (zs.take k).any p = false) (hp : p (zs[k]?.getD d) = false) : (zs.take (k + 1)).any p = false := by
  rw [take_snoc zs d k h, List.any_append, hk]; simp [hp]
theorem map_take_snoc {α β : Type} (f : α → β) (zs : List α) (d : α) (k : Nat) (h : k < zs.length) : (zs.take k).map f ++ [f (zs[k]?.getD d)] = (zs.take (k + 1)).map f := by
  rw [take_snoc zs d k h]; simp
end Go.Proofs.YtcolecidbalmhaaGreatDoor.M
namespace Go.Proofs.YtcolecidbalmhaaGreatDoor
open Go.RowKit

def inB (v a b : Int) : Bool := decide (a ≤ v ∧ v ≤ b)

theorem l1In_any (v a b : Int) (w : World) :
    Calls Tryz.prog 108 #[.int .i64 v, .int .i64 a, .int .i64 b] w fun e w' => e = .returned (.bool (inB v a b)) ∧ w = w' := by
  by_cases h1 : a ≤ v
  · by_cases h2 : v ≤ b
    · have e : inB v a b = true := by simp [inB, h1, h2]
      rw [e]; clear e
      go_enter Tryz.func108, Tryz.ntmps108
      go_wp2
      go_ret
      simp
    · have e : inB v a b = false := by simp [inB, h2]
      rw [e]; clear e
      go_enter Tryz.func108, Tryz.ntmps108
      go_wp2
      go_ret
      simp
  · have e : inB v a b = false := by simp [inB, h1]
    rw [e]; clear e
    go_enter Tryz.func108, Tryz.ntmps108
    go_wp2
    go_ret
    simp

def restB (a m : Int) : Bool := decide (1 ≤ m ∧ m ≤ 1000000 ∧ 0 ≤ a ∧ a < m)

theorem product_none (m : Int) (w : World) (h1 : 1 ≤ m) (h2 : m ≤ 1000000) :
    Calls Tryz.prog 227 #[.int .i64 m, .slice none 0 0] w fun e w' => e = .returned (.int .i64 (1 % m)) ∧ w = w' := by
  go_enter Tryz.func227, Tryz.ntmps227
  go_wp2
  refine wp_loop_rounds 1 ?_
  rw [rounds_succ]; go_wp2
  go_ret
  simp

theorem product_two (m x y : Int) (b : Nat) (w : World) (h1 : 1 ≤ m) (h2 : m ≤ 1000000) (hx0 : 0 ≤ x) (hx1 : x < m) (hy0 : 0 ≤ y) (hy1 : y < m)
    (c0 : w.cell? ⟨b, 0, none⟩ = some (.int .i64 x)) (c1 : w.cell? ⟨b, 1, none⟩ = some (.int .i64 y)) :
    Calls Tryz.prog 227 #[.int .i64 m, .slice (some ⟨b, 0, none⟩) 2 2] w fun e w' => e = .returned (.int .i64 (x * y % m)) ∧ w = w' := by
  have b0 := M.mod_bd 1 h1
  have b1 := M.mod_bd (1 % m * x) h1
  have p1 := M.mul_bd b0.1 b0.2 hx0 hx1 h2
  have p2 := M.mul_bd b1.1 b1.2 hy0 hy1 h2
  obtain ⟨b00, b01⟩ := b0
  obtain ⟨b10, b11⟩ := b1
  obtain ⟨p10, p11⟩ := p1
  obtain ⟨p20, p21⟩ := p2
  go_enter Tryz.func227, Tryz.ntmps227
  go_wp2
  refine wp_loop_rounds 3 ?_
  rw [rounds_succ]; go_wp2
  rw [rounds_succ]; go_wp2
  rw [rounds_succ]; go_wp2
  go_ret
  exact ⟨by rw [M.prod2]; rfl, rfl⟩

theorem and_one (n : Int) : bits .and .i64 n 1 = n % 2 := by
  have h1 : (BitVec.ofInt 64 1).toNat = 2 ^ 1 - 1 := by decide
  have key : (BitVec.ofInt 64 n &&& BitVec.ofInt 64 1).toNat = (n % ((2 ^ 64 : Nat) : Int)).toNat % 2 ^ 1 := by
    rw [BitVec.toNat_and, BitVec.toNat_ofInt, h1, Nat.and_two_pow_sub_one_eq_mod]
  show IntKind.i64.wrap ((BitVec.ofInt 64 n &&& BitVec.ofInt 64 1).toNat : Nat) = n % 2
  rw [key, IntKind.wrap_i64]
  omega

theorem bit_of (e k : Nat) : bits .and .i64 ((e : Int) / 2 ^ k) 1 = ((e / 2 ^ k % 2 : Nat) : Int) := by
  rw [and_one]; simp

theorem power_any (m a : Int) (e : Nat) (w : World) (h1 : 1 ≤ m) (h2 : m ≤ 1000000) (ha0 : 0 ≤ a) (ha1 : a < m) :
    Calls Tryz.prog 178 #[.int .i64 m, .int .i64 a, .int .i64 e] w fun r w' => r = .returned (.int .i64 (M.pw a (e % 2 ^ 30) m)) ∧ Below w.heap.size w w' := by
  go_enter Tryz.func178, Tryz.ntmps178
  go_wp2_with fail
  refine (product_none _ _ h1 h2).mono ?_
  rintro r w' ⟨rfl, rfl⟩
  go_wp2_with fail
  go_loopw [7, 8, 13] (fun v q i wr => ∃ k : Nat, k ≤ 30 ∧ i = .int .i64 k ∧ v = .int .i64 (M.pw a (e % 2 ^ k) m) ∧ q = .int .i64 (M.pw a (2 ^ k) m) ∧ Below w.heap.size w wr) (fun _ _ i _ => 30 - (intOf i).toNat)
  case atStart => exact ⟨0, by omega, rfl, by rw [Nat.pow_zero, Nat.mod_one, M.pw_zero], by rw [Nat.pow_zero, M.pw_one ha0 ha1], Below.refl _ _⟩
  case round =>
    obtain ⟨k, hk, rfl, rfl, rfl, hb⟩ := hrel
    obtain ⟨v0, v1⟩ := M.pw_bd a (e % 2 ^ k) h1
    obtain ⟨q0, q1⟩ := M.pw_bd a (2 ^ k) h1
    by_cases hlt : k < 30
    · have hn := bit_of e k
      have Hs := Lib.hid (M.square a k m)
      have hz := hb.size
      by_cases ho : e / 2 ^ k % 2 = 1
      · have ht : (bits .and .i64 ((e : Int) / 2 ^ k) 1 == 1) = true := by rw [hn, ho]; rfl
        have H1 := Lib.hid (M.bit_one a e k m ho)
        clear hn ho
        go_wp2_with fail
        refine (product_two _ _ _ _ _ h1 h2 v0 v1 q0 q1 (by go_simp) (by go_simp)).mono ?_
        rintro r w' ⟨rfl, rfl⟩
        go_wp2_with fail
        refine (product_two _ _ _ _ _ h1 h2 q0 q1 q0 q1 (by go_simp) (by go_simp)).mono ?_
        rintro r w' ⟨rfl, rfl⟩
        go_wp2_with fail
        go_roundw
        case rel => exact ⟨k + 1, by omega, by go_num, by rw [H1.out], by rw [Hs.out], (hb.alloc hz _).alloc (by simp; omega) _⟩
        case measure => simp [intOf]; omega
      · have h0 : e / 2 ^ k % 2 = 0 := by omega
        have ht : (bits .and .i64 ((e : Int) / 2 ^ k) 1 == 1) = false := by rw [hn, h0]; rfl
        have H1 := Lib.hid (M.bit_zero a e k m h0)
        clear hn ho h0
        go_wp2_with fail
        refine (product_two _ _ _ _ _ h1 h2 q0 q1 q0 q1 (by go_simp) (by go_simp)).mono ?_
        rintro r w' ⟨rfl, rfl⟩
        go_wp2_with fail
        go_roundw
        case rel => exact ⟨k + 1, by omega, by go_num, by rw [H1.out], by rw [Hs.out], hb.alloc hz _⟩
        case measure => simp [intOf]; omega
    · obtain rfl : k = 30 := by omega
      go_wp2_with fail
      go_ret
      exact ⟨rfl, hb⟩

theorem power_int (m a e : Int) (w : World) (h1 : 1 ≤ m) (h2 : m ≤ 1000000) (ha0 : 0 ≤ a) (ha1 : a < m) (he0 : 0 ≤ e) (he1 : e ≤ 1000000000) :
    Calls Tryz.prog 178 #[.int .i64 m, .int .i64 a, .int .i64 e] w fun r w' => r = .returned (.int .i64 (M.pw a e.toNat m)) ∧ Below w.heap.size w w' := by
  obtain ⟨n, rfl⟩ := Int.eq_ofNat_of_zero_le he0
  have h : n % 2 ^ 30 = n := Nat.mod_eq_of_lt (by omega)
  have c := power_any m a n w h1 h2 ha0 ha1
  rw [h] at c
  exact c

end Go.Proofs.YtcolecidbalmhaaGreatDoor
namespace Go.Proofs.YtcolecidbalmhaaGreatDoor
open Go.RowKit

theorem ret_int {k : IntKind} {a b : Int} (h : a = b) : Ending.returned (.int k a) = .returned (.int k b) := by rw [h]
theorem ret_bool {a b : Bool} (h : a = b) : Ending.returned (.bool a) = .returned (.bool b) := by rw [h]

theorem l2Sum_any (a : Option Addr) (len cap B : Nat) (zs : List Int) (w : World) (hR : Row .u8 w B a len cap zs) :
    Calls Tryz.prog 164 #[.slice a len cap] w fun e w' => e = .returned (.int .i64 (M.sumL zs)) ∧ w = w' := by
  have hlen := hR.fits
  have hmost := hR.most
  unfold maxLen at hmost
  have hL := Lib.hid hR.length
  rcases Nat.eq_zero_or_pos len with h0 | h0
  · subst h0
    obtain rfl : zs = [] := List.eq_nil_of_length_eq_zero hL.out
    go_enter Tryz.func164, Tryz.ntmps164
    go_wp2_with fail
    refine wp_loop_rounds 1 ?_
    rw [rounds_succ]; go_wp2_with fail
    go_ret
    exact ⟨rfl, rfl⟩
  · obtain ⟨b, off, rfl, hb, hc⟩ := hR.cells h0
    have Hc := Lib.hid hc
    have HB := Lib.hid hR.byte
    clear hc hR
    go_enter Tryz.func164, Tryz.ntmps164
    go_wp2_with fail
    go_loop [3, 4] (fun n i => ∃ k : Nat, k ≤ len ∧ i = .int .i64 k ∧ n = .int .i64 (M.sumL (zs.take k))) (fun _ i => len - (intOf i).toNat)
    case atStart => exact ⟨0, Nat.zero_le _, rfl, rfl⟩
    case round =>
      obtain ⟨k, hk, rfl, rfl⟩ := hrel
      obtain ⟨s0, s1⟩ := M.sumL_bd (zs.take k)
      by_cases hlt : k < len
      · have hcell := Hc.out k hlt
        obtain ⟨z0, z1⟩ := HB.out k
        simp only [List.getD_eq_getElem?_getD] at hcell z0 z1
        have H := Lib.hid (M.sumL_take zs k (by rw [hL.out]; exact hlt))
        go_wp2_with fail
        go_round
        case rel => exact ⟨k + 1, by omega, by go_num, by rw [H.out]⟩
        case measure => simp [intOf]; omega
      · go_wp2_with fail
        go_ret
        exact ⟨ret_int (by rw [List.take_of_length_le (by rw [hL.out]; omega)]), rfl⟩

theorem sumBytes_any (a : Option Addr) (len cap B : Nat) (zs : List Int) (w : World) (hR : Row .u8 w B a len cap zs) :
    Calls Tryz.prog 137 #[.slice a len cap] w fun e w' => e = .returned (.int .u32 (M.sumL zs)) ∧ w = w' := by
  have hlen := hR.fits
  have hmost := hR.most
  unfold maxLen at hmost
  have hL := Lib.hid hR.length
  rcases Nat.eq_zero_or_pos len with h0 | h0
  · subst h0
    obtain rfl : zs = [] := List.eq_nil_of_length_eq_zero hL.out
    go_enter Tryz.func137, Tryz.ntmps137
    go_wp2_with fail
    refine wp_loop_rounds 1 ?_
    rw [rounds_succ]; go_wp2_with fail
    go_ret
    exact ⟨rfl, rfl⟩
  · obtain ⟨b, off, rfl, hb, hc⟩ := hR.cells h0
    have Hc := Lib.hid hc
    have HB := Lib.hid hR.byte
    clear hc hR
    go_enter Tryz.func137, Tryz.ntmps137
    go_wp2_with fail
    go_loop [3, 8] (fun n i => ∃ k : Nat, k ≤ len ∧ i = .int .i64 k ∧ n = .int .u32 (M.sumL (zs.take k))) (fun _ i => len - (intOf i).toNat)
    case atStart => exact ⟨0, Nat.zero_le _, rfl, rfl⟩
    case round =>
      obtain ⟨k, hk, rfl, rfl⟩ := hrel
      obtain ⟨s0, s1⟩ := M.sumL_bd (zs.take k)
      by_cases hlt : k < len
      · have hcell := Hc.out k hlt
        obtain ⟨z0, z1⟩ := HB.out k
        simp only [List.getD_eq_getElem?_getD] at hcell z0 z1
        have H := Lib.hid (M.sumL_take zs k (by rw [hL.out]; exact hlt))
        go_wp2_with fail
        go_round
        case rel => exact ⟨k + 1, by omega, by go_num, by rw [H.out]⟩
        case measure => simp [intOf]; omega
      · go_wp2_with fail
        go_ret
        exact ⟨ret_int (by rw [List.take_of_length_le (by rw [hL.out]; omega)]), rfl⟩

theorem l2Is_any (v : Int) (w : World) :
    Calls Tryz.prog 224 #[.int .i64 v] w fun e w' => e = .returned (.bool (M.sumB v)) ∧ w = w' := by
  go_enter Tryz.func224, Tryz.ntmps224
  go_wp2_with fail
  refine (l1In_any _ _ _ _).mono ?_
  rintro r w' ⟨rfl, rfl⟩
  go_wp2_with fail
  go_ret
  exact ⟨rfl, rfl⟩

theorem isSum_any (v : Int) (w : World) :
    Calls Tryz.prog 171 #[.int .i64 v] w fun e w' => e = .returned (.bool (M.sumB v)) ∧ w = w' := by
  by_cases h1 : 0 ≤ v
  · by_cases h2 : v ≤ 65520
    · have e : M.sumB v = true := by simp [M.sumB, h1, h2]
      rw [e]; clear e
      go_enter Tryz.func171, Tryz.ntmps171
      go_wp2_with fail
      go_ret
      simp
    · have e : M.sumB v = false := by simp [M.sumB, h2]
      rw [e]; clear e
      go_enter Tryz.func171, Tryz.ntmps171
      go_wp2_with fail
      go_ret
      simp
  · have e : M.sumB v = false := by simp [M.sumB, h1]
    rw [e]; clear e
    go_enter Tryz.func171, Tryz.ntmps171
    go_wp2_with fail
    go_ret
    simp

end Go.Proofs.YtcolecidbalmhaaGreatDoor
namespace Go.Proofs.YtcolecidbalmhaaGreatDoor
open Go.RowKit

/-- A slice of whole numbers that the call made. -/
def OwnK (k : IntKind) (w : World) (B : Nat) (v : Value) (zs : List Int) : Prop := Own w B 1 v zs.length (zs.map (Value.int k))
/-- A slice that has been appended to. -/
def Grew (k : IntKind) (B : Nat) (v : Value) (zs : List Int) (w : World) (r : Ending) (w' : World) : Prop := ∃ v', r = .returned v' ∧ OwnK k w' B v' zs ∧ w.grownBy w' v.ownBlock
theorem Own.grown {W w w' : World} {B size : Nat} {v : Value} {n : Nat} {xs : List Value} (h : Own w B size v n xs) (hb : Below B W w) (hB : B ≤ w.heap.size) (hg : w.grownBy w' v.ownBlock) : Below B W w' :=
  hb.grown hg hB fun k hk => (h.lt k hk).1

theorem u8_info : (Tryz.prog.info? 5).map (fun i => (i.zero, i.size, i.bytes)) = some (some (.int .u8 0), 1, 1) := by kernel_rfl

/-- What is appended lies in the block that was just made. -/
theorem src_new {P : Program} (w : World) (vs : List Value) (m c : Nat) (t tx e' : TypeId) (hk : P.underlying tx = some (.slice e')) (hm : vs.length = m) (h1 : ∀ u ∈ vs, u.oneCell' = true) :
    Go.Src P 1 tx (.slice (some ⟨w.heap.size, 0, none⟩) m c) m vs (w.alloc (.cells vs.toArray t)) := by
  refine Src.ofSlice _ hk _ _ _ _ (by omega) (fun j u hu => ?_) h1
  have e1 : (w.alloc (.cells vs.toArray t)).heap[w.heap.size]? = some (.cells vs.toArray t) := (MapKept.heap_alloc w _).1
  rw [Addr.add_lit, Nat.zero_add]
  unfold World.cell?
  rw [e1]
  simpa using hu
theorem grown_alloc {w w' : World} {o : Obj} {row : Option Nat} (h : (w.alloc o).grownBy w' row) : w.grownBy w' row :=
  ⟨h.os, h.tape, h.output, Nat.le_trans (by simp) h.size, fun k hk hne => (h.block k (by simp; omega) hne).trans (Below.heap_alloc w o k hk)⟩
theorem appendTwo_any (v : Value) (n : Int) (B : Nat) (zs : List Int) (w : World) (ho : OwnK .u8 w B v zs) (hB : B ≤ w.heap.size) (hn : M.sumB n = true) (hl : zs.length ≤ 1000000) :
    Calls Tryz.prog 136 #[v, .int .i64 n] w (Grew .u8 B v (zs ++ M.two n) w) := by
  obtain ⟨i0, hi0, hz0, hz1, hz2⟩ := info_parts u8_info
  have hn' := hn
  simp only [M.sumB, decide_eq_true_eq] at hn'
  obtain ⟨n0, n1⟩ := hn'
  clear hn
  go_enter Tryz.func136, Tryz.ntmps136
  go_wp2_with (at_builtin; refine wpList_append_src _ rfl (.tmp 5) (.tmp 11) 22 22 rfl B 5 i0 (.int .u8 0) 1 1 Tryz.underlying22 hi0 hz0 hz1 hz2 rfl v zs.length (zs.map (Value.int .u8)) rfl (ho.alloc _) _ 2 [.int .u8 (n / 256), .int .u8 (n % 256)] rfl (src_new w _ 2 2 _ _ _ Tryz.underlying22 rfl (ints_oneCell .u8 [n / 256, n % 256])) (by simp only [maxLen]; omega) (by omega) (by simp; omega) ?_; intro v' w' hown hgrow hat)
  go_ret
  exact ⟨v', rfl, by unfold OwnK; simpa [M.two] using hown, grown_alloc hgrow⟩

def Two (n : Int) (w : World) (r : Ending) (w' : World) : Prop := r = .returned (.slice (some ⟨w.heap.size, 0, none⟩) 2 2) ∧ w' = w.alloc (.cells #[.int .u8 (n / 256), .int .u8 (n % 256)] 5)
theorem l1Two_any (n : Int) (w : World) (hn : M.sumB n = true) : Calls Tryz.prog 163 #[.int .i64 n] w (Two n w) := by
  have hn' := hn
  simp only [M.sumB, decide_eq_true_eq] at hn'
  obtain ⟨n0, n1⟩ := hn'
  clear hn
  go_enter Tryz.func163, Tryz.ntmps163
  go_wp2_with fail
  go_ret
  exact ⟨rfl, rfl⟩

/-- What is appended lies in a block that is known whole. -/
theorem src_at {P : Program} {w : World} (g : Nat) (vs : List Value) (m c : Nat) (t tx e' : TypeId) (hk : P.underlying tx = some (.slice e')) (hm : vs.length = m) (h1 : ∀ u ∈ vs, u.oneCell' = true)
    (hg : w.heap[g]? = some (.cells vs.toArray t)) : Go.Src P 1 tx (.slice (some ⟨g, 0, none⟩) m c) m vs w := by
  refine Src.ofSlice _ hk _ _ _ _ (by omega) (fun j u hu => ?_) h1
  rw [Addr.add_lit, Nat.zero_add]
  unfold World.cell?
  rw [hg]
  simpa using hu
abbrev textObj (w : World) (s : ByteArray) (e : TypeId) : Obj := .cells (bytesRow s (grownCap w s.size 0 e)) e ((bytesRow s (grownCap w s.size 0 e)).size, (bytesRow s (grownCap w s.size 0 e)).size + 1)
theorem own_text (w : World) (s : ByteArray) (e : TypeId) (hs : s.size ≤ maxLen) :
    Own (w.alloc (textObj w s e)) w.heap.size 1 (.slice (some ⟨w.heap.size, 0, none⟩) s.size (grownCap w s.size 0 e)) s.size ((M.textL s).map (Value.int .u8)) := by
  have hge := grownCap_ge w s.size 0 e
  refine Own.bytes w _ e _ _ (Nat.le_refl _) hge (grownCap_le_maxLen w s.size 0 e hs) ?_ (by simp [M.textL]) ?_ _
  · simp only [bytesRow, Array.size_append, Array.size_map, Array.size_replicate]
    show s.size + _ = _
    omega
  · simp only [bytesRow, Array.toList_append, M.textL, Array.toList_map]
    rw [List.take_append_of_le_length (by simp)]
    rw [List.take_of_length_le (by simp)]
    simp [List.map_map, Function.comp_def]
theorem tag_start {W : World} (w : World) (s : ByteArray) (e : TypeId) (o : Obj) (hs : s.size ≤ maxLen) (hW : W = ((w.alloc (textObj w s e)).alloc o).drew) :
    Own W w.heap.size 1 (.slice (some ⟨w.heap.size, 0, none⟩) s.size (grownCap w s.size 0 e)) s.size ((M.textL s).map (Value.int .u8)) := by
  subst hW; exact ((own_text w s e hs).alloc o).drew
theorem tag_src {P : Program} (w : World) (o : Obj) (tx e' t : TypeId) (hk : P.underlying tx = some (.slice e')) :
    Go.Src P 1 tx (.slice (some ⟨w.heap.size + 1, 0, none⟩) 1 1) 1 [.int .u8 0] ((w.alloc o).alloc (.cells #[.int .u8 0] t)).drew := by
  refine src_at (w.heap.size + 1) [.int .u8 0] 1 1 t tx e' hk rfl (ints_oneCell .u8 [0]) ?_
  have := (MapKept.heap_alloc (w.alloc o) (.cells #[.int .u8 0] t)).1
  rw [show (w.alloc o).heap.size = w.heap.size + 1 by simp] at this
  exact this
theorem tag_first {w w1 : World} {s : ByteArray} {e : TypeId} {o : Obj} {v : Value} (hs : s.size ≤ maxLen)
    (hown : Own w1 w.heap.size 1 v (s.size + 1) ((M.textL s).map (Value.int .u8) ++ [.int .u8 0])) (hg : ((w.alloc (textObj w s e)).alloc o).drew.grownBy w1 (Value.ownBlock (.slice (some ⟨w.heap.size, 0, none⟩) s.size (grownCap w s.size 0 e)))) :
    OwnK .u8 w1 w.heap.size v (M.tagBytes s []) ∧ Below w.heap.size w w1 := by
  refine ⟨?_, (tag_start w s e o hs rfl).grown ?_ (by simp; omega) hg⟩
  · unfold OwnK
    rw [M.tagBytes_nil]
    simpa [M.textL_length] using hown
  · exact (bal (bal (Below.refl _ w) _) _).drew

def TagRel (w : World) (s : ByteArray) (zs : List Int) (k : Nat) (v : Value) (wr : World) : Prop := OwnK .u8 wr w.heap.size v (M.tagBytes s (zs.take k)) ∧ Below w.heap.size w wr
theorem TagRel.step {w w1 w2 : World} {s : ByteArray} {zs : List Int} {k : Nat} {v v' : Value} (h : TagRel w s zs k v w1) (hk : k < zs.length) (ho : OwnK .u8 w2 w.heap.size v' (M.tagBytes s (zs.take k) ++ M.two (zs[k]?.getD 0))) (hg : w1.grownBy w2 v.ownBlock) : TagRel w s zs (k + 1) v' w2 :=
  ⟨by rw [← M.tagBytes_take s zs k hk]; exact ho, h.1.grown h.2 h.2.size hg⟩
theorem byte_wf {b : Int} (h : M.byteB b) : (Lit.int .u8 b).wf = true := by
  unfold M.byteB at h
  simp [Lit.wf, IntKind.min, IntKind.max, IntKind.signed, IntKind.bits]; omega
theorem TagRel.row {w w1 : World} {s : ByteArray} {zs : List Int} {v : Value} (h : TagRel w s zs zs.length v w1) (hz : zs.all M.sumB = true) :
    ∃ a n c, v = .slice a n c ∧ Row .u8 w1 w1.heap.size a n c (M.tagBytes s zs) := by
  obtain ⟨ho, _⟩ := h
  rw [List.take_length] at ho
  obtain ⟨a, c, rfl, _⟩ := ho.form
  exact ⟨a, _, c, rfl, Own.row ho fun b hb => byte_wf (M.tagBytes_byte s zs (fun z hz' => List.all_eq_true.1 hz z hz') b hb)⟩

theorem sumTagged_any (s : ByteArray) (a : Option Addr) (len cap B : Nat) (zs : List Int) (w : World) (hs : s.size ≤ 12) (hR : Row .i64 w B a len cap zs) (hB : B ≤ w.heap.size) (hz : zs.all M.sumB = true) (hl : len ≤ 40) :
    Calls Tryz.prog 228 #[.string s, .slice a len cap] w fun e w' => e = .returned (.int .u32 (M.tagL s zs)) ∧ Below w.heap.size w w' := by
  obtain ⟨i0, hi0, hz0, hz1, hz2⟩ := info_parts u8_info
  have hcv := fun (W : World) => run_bytes_of_string (P := Tryz.prog) W 9 22 5 s Tryz.underlying9 Tryz.underlying22 Tryz.underlying5
  have hL := Lib.hid hR.length
  have HZ := Lib.hid hz
  have hs' : s.size ≤ maxLen := by simp only [maxLen]; omega
  clear hz
  go_enter Tryz.func228, Tryz.ntmps228
  go_wp2_with (at_builtin; refine wpList_append_src _ rfl (.tmp 9) (.tmp 10) 22 22 rfl w.heap.size 5 i0 (.int .u8 0) 1 1 Tryz.underlying22 hi0 hz0 hz1 hz2 rfl _ s.size _ rfl (tag_start w s 5 _ hs' rfl) _ 1 [.int .u8 0] rfl (tag_src w _ _ _ _ Tryz.underlying22) (by simp only [maxLen]; omega) (by omega) (by simp; omega) ?_; intro v w1 hown hgrow hat)
  obtain ⟨ho1, hb1⟩ := tag_first hs' hown hgrow
  clear hown hgrow hat hcv
  have T1 : TagRel w s zs 0 v w1 := ⟨ho1, hb1⟩
  clear ho1 hb1
  go_wp2_with fail
  go_loopw [5, 14] (fun v i wr => ∃ k : Nat, k ≤ len ∧ i = .int .i64 k ∧ TagRel w s zs k v wr) (fun _ i _ => len - (intOf i).toNat)
  case atStart => exact ⟨0, Nat.zero_le _, rfl, T1⟩
  case round =>
    obtain ⟨k, hk, rfl, hT⟩ := hrel
    by_cases hlt : k < len
    · obtain ⟨b, off, ha, hb, hc⟩ := hR.cells (by omega)
      have hcell := (hT.2.cell (p := ⟨b, off + k, none⟩) (by show b < _; omega)).trans (hc k hlt)
      simp only [List.getD_eq_getElem?_getD] at hcell
      clear hc
      have hzk : M.sumB (zs[k]?.getD 0) = true := List.all_eq_true.1 HZ.out _ (by simp [show k < zs.length by rw [hL.out]; exact hlt])
      have HK := Lib.hid hzk
      have hlen : (M.tagBytes s (zs.take k)).length ≤ 1000000 := by rw [M.tagBytes_length]; simp; omega
      subst ha
      clear hzk
      go_wp2_with fail
      refine (appendTwo_any _ _ _ _ _ hT.1 hT.2.size HK.out hlen).mono ?_
      rintro r w2 ⟨v2, rfl, ho2, hg2⟩
      have T2 := hT.step (by rw [hL.out]; exact hlt) ho2 hg2
      clear ho2 hg2 hT hcell HK hlen
      go_wp2_with fail
      go_roundw
      case rel => exact ⟨k + 1, by omega, by go_num, T2⟩
      case measure => simp [intOf]; omega
    · obtain rfl : k = len := by omega
      have hT' := hT
      rw [← hL.out] at hT'
      obtain ⟨a', n', c', hv, hrow⟩ := hT'.row HZ.out
      have hb := Lib.hid hT.2
      clear hT hT'
      subst hv
      go_wp2_with fail
      refine (sumBytes_any _ _ _ _ _ _ hrow).mono ?_
      rintro r w' ⟨rfl, rfl⟩
      clear hrow
      go_wp2_with fail
      go_ret
      exact ⟨rfl, hb.out⟩

theorem l2Tag_any (s : ByteArray) (a : Option Addr) (len cap B : Nat) (zs : List Int) (w : World) (hs : s.size ≤ 12) (hR : Row .i64 w B a len cap zs) (hB : B ≤ w.heap.size) (hz : zs.all M.sumB = true) (hl : len ≤ 40) :
    Calls Tryz.prog 240 #[.string s, .slice a len cap] w fun e w' => e = .returned (.int .i64 (M.tagL s zs)) ∧ Below w.heap.size w w' := by
  obtain ⟨i0, hi0, hz0, hz1, hz2⟩ := info_parts u8_info
  have hcv := fun (W : World) => run_bytes_of_string (P := Tryz.prog) W 9 22 5 s Tryz.underlying9 Tryz.underlying22 Tryz.underlying5
  have hL := Lib.hid hR.length
  have HZ := Lib.hid hz
  have hs' : s.size ≤ maxLen := by simp only [maxLen]; omega
  clear hz
  go_enter Tryz.func240, Tryz.ntmps240
  go_wp2_with (at_builtin; refine wpList_append_src _ rfl (.tmp 8) (.tmp 9) 22 22 rfl w.heap.size 5 i0 (.int .u8 0) 1 1 Tryz.underlying22 hi0 hz0 hz1 hz2 rfl _ s.size _ rfl (tag_start w s 5 _ hs' rfl) _ 1 [.int .u8 0] rfl (tag_src w _ _ _ _ Tryz.underlying22) (by simp only [maxLen]; omega) (by omega) (by simp; omega) ?_; intro v w1 hown hgrow hat)
  obtain ⟨ho1, hb1⟩ := tag_first hs' hown hgrow
  clear hown hgrow hat hcv
  have T1 : TagRel w s zs 0 v w1 := ⟨ho1, hb1⟩
  clear ho1 hb1
  go_wp2_with fail
  go_loopw [5, 6] (fun v i wr => ∃ k : Nat, k ≤ len ∧ i = .int .i64 k ∧ TagRel w s zs k v wr) (fun _ i _ => len - (intOf i).toNat)
  case atStart => exact ⟨0, Nat.zero_le _, rfl, T1⟩
  case round =>
    obtain ⟨k, hk, rfl, hT⟩ := hrel
    by_cases hlt : k < len
    · obtain ⟨b, off, ha, hb, hc⟩ := hR.cells (by omega)
      have hcell := (hT.2.cell (p := ⟨b, off + k, none⟩) (by show b < _; omega)).trans (hc k hlt)
      simp only [List.getD_eq_getElem?_getD] at hcell
      clear hc
      have hzk : M.sumB (zs[k]?.getD 0) = true := List.all_eq_true.1 HZ.out _ (by simp [show k < zs.length by rw [hL.out]; exact hlt])
      have HK := Lib.hid hzk
      have hlen : (M.tagBytes s (zs.take k)).length ≤ 1000000 := by rw [M.tagBytes_length]; simp; omega
      have hsz := hT.2.size
      subst ha
      clear hzk
      go_wp2_with fail
      refine (l1Two_any _ _ HK.out).mono ?_
      rintro r w2 ⟨rfl, hw2⟩
      subst hw2
      go_wp2_with (at_builtin; refine wpList_append_src _ rfl (.tmp 17) (.tmp 22) 22 22 rfl w.heap.size 5 i0 (.int .u8 0) 1 1 Tryz.underlying22 hi0 hz0 hz1 hz2 rfl _ _ _ rfl (hT.1.alloc _) _ 2 [.int .u8 (zs[k]?.getD 0 / 256), .int .u8 (zs[k]?.getD 0 % 256)] rfl (src_new wr _ 2 2 _ _ _ Tryz.underlying22 rfl (ints_oneCell .u8 [zs[k]?.getD 0 / 256, zs[k]?.getD 0 % 256])) (by simp only [maxLen]; omega) (by omega) (by simp; omega) ?_; intro v2 w2 hown hgrow hat)
      have T2 := hT.step (v' := v2) (w2 := w2) (by rw [hL.out]; exact hlt) (by unfold OwnK; simpa [M.two] using hown) (grown_alloc hgrow)
      clear hown hgrow hat hT hcell HK hlen
      go_wp2_with fail
      go_roundw
      case rel => exact ⟨k + 1, by omega, by go_num, T2⟩
      case measure => simp [intOf]; omega
    · obtain rfl : k = len := by omega
      have hT' := hT
      rw [← hL.out] at hT'
      obtain ⟨a', n', c', hv, hrow⟩ := hT'.row HZ.out
      have hb := Lib.hid hT.2
      clear hT hT'
      subst hv
      go_wp2_with fail
      refine (l2Sum_any _ _ _ _ _ _ hrow).mono ?_
      rintro r w' ⟨rfl, rfl⟩
      clear hrow
      go_wp2_with fail
      go_ret
      exact ⟨rfl, hb.out⟩

end Go.Proofs.YtcolecidbalmhaaGreatDoor
namespace Go.Proofs.YtcolecidbalmhaaGreatDoor
open Go.RowKit

theorem l1Pow_any (a : Int) (e : Nat) (m : Int) (w : World) (h1 : 1 ≤ m) (h2 : m ≤ 1000000) (ha0 : 0 ≤ a) (ha1 : a < m) (he : e ≤ 1000000000) :
    Calls Tryz.prog 256 #[.int .i64 a, .int .i64 e, .int .i64 m] w fun r w' => r = .returned (.int .i64 (M.pw a e m)) ∧ w = w' := by
  obtain ⟨o0, o1⟩ := M.mod_bd 1 h1
  go_enter Tryz.func256, Tryz.ntmps256
  go_wp2_with fail
  go_loop [0, 1, 7] (fun x y z => ∃ (b n : Int) (k : Nat), x = .int .i64 b ∧ y = .int .i64 k ∧ z = .int .i64 n ∧ 0 ≤ b ∧ b < m ∧ 0 ≤ n ∧ n < m ∧ k ≤ 1000000000 ∧ M.Keep a e m n b k) (fun _ y _ => (intOf y).toNat)
  case atStart => exact ⟨a, 1 % m, e, rfl, rfl, rfl, ha0, ha1, o0, o1, he, M.keep_start a e m⟩
  case round =>
    obtain ⟨b, n, k, rfl, rfl, rfl, b0, b1, n0, n1, hk, hkeep⟩ := hrel
    obtain ⟨p0, p1⟩ := M.mul_bd b0 b1 b0 b1 h2
    obtain ⟨q0, q1⟩ := M.mul_bd n0 n1 b0 b1 h2
    obtain ⟨r0, r1⟩ := M.mod_bd (b * b) h1
    obtain ⟨s0, s1⟩ := M.mod_bd (n * b) h1
    by_cases hz : 0 < k
    · by_cases ho : k % 2 = 1
      · have H1 := Lib.hid (M.keep_odd hkeep ho)
        have ht : ((k : Int) % 2 == 1) = true := by rw [beq_iff_eq]; omega
        clear ho hkeep
        go_wp2_with fail
        go_round
        case rel => exact ⟨b * b % m, n * b % m, k / 2, rfl, by go_num, rfl, r0, r1, s0, s1, by omega, H1.out⟩
        case measure => simp [intOf]; omega
      · have H1 := Lib.hid (M.keep_even hkeep (by omega))
        have ht : ((k : Int) % 2 == 1) = false := by rw [beq_eq_false_iff_ne]; omega
        clear ho hkeep
        go_wp2_with fail
        go_round
        case rel => exact ⟨b * b % m, n, k / 2, rfl, by go_num, rfl, r0, r1, n0, n1, by omega, H1.out⟩
        case measure => simp [intOf]; omega
    · obtain rfl : k = 0 := by omega
      have H1 := Lib.hid (M.keep_end hkeep n0 n1)
      clear hkeep
      go_wp2_with fail
      go_ret
      exact ⟨by rw [← H1.out]; rfl, rfl⟩

theorem l1Pow_int (a e m : Int) (w : World) (h1 : 1 ≤ m) (h2 : m ≤ 1000000) (ha0 : 0 ≤ a) (ha1 : a < m) (he0 : 0 ≤ e) (he1 : e ≤ 1000000000) :
    Calls Tryz.prog 256 #[.int .i64 a, .int .i64 e, .int .i64 m] w fun r w' => r = .returned (.int .i64 (M.pw a e.toNat m)) ∧ w = w' := by
  obtain ⟨n, rfl⟩ := Int.eq_ofNat_of_zero_le he0
  exact l1Pow_any a n m w h1 h2 ha0 ha1 (by omega)

theorem l1Raise_int (a e : Int) (w : World) (ha0 : 0 ≤ a) (ha1 : a < 2879) (he0 : 0 ≤ e) (he1 : e ≤ 1000000000) :
    Calls Tryz.prog 216 #[.int .i64 a, .int .i64 e] w fun r w' => r = .returned (.int .i64 (M.pw a e.toNat 2879)) ∧ w = w' := by
  go_enter Tryz.func216, Tryz.ntmps216
  go_wp2_with fail
  refine (l1Pow_int _ _ _ _ (by omega) (by omega) ha0 ha1 he0 he1).mono ?_
  rintro r w' ⟨rfl, rfl⟩
  go_wp2_with fail
  go_ret
  simp

abbrev I2 (c v : Int) : Value := .agg #[.int .i64 c, .int .i64 v]

def mulR (a b m : Int) : Int × Int := if restB a m && restB b m then (0, a * b % m) else (3, 0)
def powR (a e m : Int) : Int × Int := if restB a m && inB e 0 1000000000 then (0, M.pw a e.toNat m) else (3, 0)

end Go.Proofs.YtcolecidbalmhaaGreatDoor
