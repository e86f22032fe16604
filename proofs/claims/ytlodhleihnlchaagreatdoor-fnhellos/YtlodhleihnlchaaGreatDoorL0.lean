/- Texts of this seat that several laws rest on, laid into one. Conditions: as each theorem states. -/
import Derived.Test.YtlodhleihnlchaaGreatDoorProg
import Derived.WalkKit
import Derived.WalkSpells
import Derived.WalkLawsBesides
import Derived.Lib.Hide
import Derived.ChangeOld
import Derived.Below
import Derived.OpenShut
import Derived.Deep.QuietTactic
import Derived.BigQuiet
import Derived.Deep.Draws
import Derived.Deep.RegionHeld3
import Derived.Deep.AppendSrc
import Derived.Deep.MidRow
import Derived.Deep.Upon
import Derived.OwnWalk
import Derived.RegionTactic
import Derived.Laws.IdiomStrings
import Derived.Lib.SlBytesConst
import Derived.Lib.Case
import Derived.Lib.Strings
import Derived.Scope
namespace Go.Proofs.YtlodhleihnlchaaGreatDoor
open Go.RowKit

theorem bal {w w1 : World} (h : Below w.heap.size w w1) (o : Obj) : Below w.heap.size w (w1.alloc o) := h.alloc h.size o
theorem btr {w w1 w2 : World} (h : Below w.heap.size w w1) (k : Below w1.heap.size w1 w2) : Below w.heap.size w w2 := h.trans (k.mono h.size)
theorem bset {w w1 : World} (h : Below w.heap.size w w1) {p : Addr} (hp : w.heap.size ≤ p.block) (v : Value) : Below w.heap.size w (w1.setCell p v) := h.setCell hp v
theorem bcell {W w1 : World} (hb : Below W.heap.size W w1) : (∀ b o, b < W.heap.size → w1.cell? ⟨b, o, none⟩ = W.cell? ⟨b, o, none⟩) ∧ (∀ b o, b < W.heap.size → w1.frozen? ⟨b, o, none⟩ = W.frozen? ⟨b, o, none⟩) :=
  ⟨fun b o h => hb.cell (p := ⟨b, o, none⟩) h, fun b o h => hb.frozen (p := ⟨b, o, none⟩) h⟩
theorem bdrewN {B : Nat} {w w1 : World} (h : Below B w w1) (n : Nat) : Below B w (w1.drewN n) := ⟨h.os, h.tape, h.output, h.size, h.block⟩

theorem cell_lt {w : World} {p : Addr} {v : Value} (h : w.cell? p = some v) : p.block < w.heap.size := by
  rcases Nat.lt_or_ge p.block w.heap.size with h1 | h1
  · exact h1
  · unfold World.cell? at h; rw [Array.getElem?_eq_none h1] at h; cases h
theorem cell_keep {w w' : World} (hb : Below w.heap.size w w') {p : Addr} {v : Value} (h : w.cell? p = some v) : w'.cell? p = some v := (hb.cell (cell_lt h)).trans h

structure Only (g : Nat) (w w' : World) : Prop where
  os : w'.os = w.os
  tape : w'.tape = w.tape
  output : w'.output = w.output
  size : w'.heap.size = w.heap.size
  block : ∀ k, k ≠ g → w'.heap[k]? = w.heap[k]?
theorem Only.refl (g : Nat) (w : World) : Only g w w := ⟨rfl, rfl, rfl, rfl, fun _ _ => rfl⟩
theorem Only.trans {g : Nat} {a b c : World} (h : Only g a b) (k : Only g b c) : Only g a c :=
  ⟨k.os.trans h.os, k.tape.trans h.tape, k.output.trans h.output, k.size.trans h.size, fun i hi => (k.block i hi).trans (h.block i hi)⟩
theorem Only.drewN {g : Nat} {a b : World} (h : Only g a b) (n : Nat) : Only g a (b.drewN n) := ⟨h.os, h.tape, h.output, h.size, h.block⟩
theorem Only.setCell {g : Nat} {a b : World} (h : Only g a b) (o : Nat) (u : Value) : Only g a (b.setCell ⟨g, o, none⟩ u) :=
  h.trans ⟨rfl, rfl, rfl, by simp [World.setCell], fun k hk => Below.heap_setCell _ _ _ _ hk⟩
theorem Only.below {g B : Nat} {a b : World} (h : Only g a b) (hB : B ≤ g) : Below B a b :=
  ⟨h.os, h.tape, h.output, by rw [h.size]; exact Nat.le_refl _, fun k hk => h.block k (by omega)⟩

structure Row (k : IntKind) (w : World) (B : Nat) (a : Option Addr) (len cap : Nat) (zs : List Int) : Prop where
  length : zs.length = len
  wf : ∀ z ∈ zs, (Lit.int k z).wf = true
  fits : len ≤ cap
  most : cap ≤ maxLen
  cells : 0 < len → ∃ b off, a = some ⟨b, off, none⟩ ∧ b < B ∧ ∀ j, j < len → w.cell? ⟨b, off + j, none⟩ = some (.int k (zs.getD j 0))
theorem Row.keep {k : IntKind} {w w' : World} {B : Nat} {a : Option Addr} {len cap : Nat} {zs : List Int} (h : Row k w B a len cap zs) (hk : ∀ i, i < B → w'.heap[i]? = w.heap[i]?) : Row k w' B a len cap zs :=
  ⟨h.length, h.wf, h.fits, h.most, fun hp => by
    obtain ⟨b, off, e, hb, hc⟩ := h.cells hp
    exact ⟨b, off, e, hb, fun j hj => (World.cell?_of_block (w := w) (hk b hb)).trans (hc j hj)⟩⟩
theorem Row.below {k : IntKind} {w w' : World} {B : Nat} {a : Option Addr} {len cap : Nat} {zs : List Int} (h : Row k w B a len cap zs) (hb : Below B w w') : Row k w' B a len cap zs := h.keep hb.block
theorem Row.more {k : IntKind} {w : World} {B B' : Nat} {a : Option Addr} {len cap : Nat} {zs : List Int} (h : Row k w B a len cap zs) (hB : B ≤ B') : Row k w B' a len cap zs :=
  ⟨h.length, h.wf, h.fits, h.most, fun hp => by
    obtain ⟨b, off, e, hb, hc⟩ := h.cells hp
    exact ⟨b, off, e, by omega, hc⟩⟩
theorem Row.byte {w : World} {B : Nat} {a : Option Addr} {len cap : Nat} {zs : List Int} (h : Row .u8 w B a len cap zs) (j : Nat) : 0 ≤ zs.getD j 0 ∧ zs.getD j 0 ≤ 255 := by
  rcases Nat.lt_or_ge j zs.length with hj | hj
  · have hm := h.wf (zs[j]) (List.getElem_mem hj)
    have e : zs.getD j 0 = zs[j] := by simp [List.getD, hj]
    rw [e]
    simp [Lit.wf, IntKind.min, IntKind.max, IntKind.signed, IntKind.bits] at hm
    omega
  · have e : zs.getD j 0 = 0 := by simp [List.getD, hj]
    rw [e]; omega

theorem Row.of_open {k : IntKind} {w : World} {x : Addr} {l c : Nat} {zs : List Int} (hl : l ≤ c) (hm : c ≤ maxLen) (hz : zs.length = c)
    (hcell : ∀ i, i < zs.length → w.cell? (x.add i) = some (.int k (zs.getD i 0))) (hw : ∀ n ∈ zs, (Lit.int k n).wf = true) : Row k w w.heap.size (some x) l c (zs.take l) :=
  ⟨by simp; omega, fun z h => hw z (List.mem_of_mem_take h), hl, hm, fun hp => by
    obtain ⟨b, off, rfl, hc⟩ := ints_at hcell (by omega)
    refine ⟨b, off, rfl, cell_lt (hc 0 (by omega)), fun j hj => ?_⟩
    rw [hc j (by omega)]
    simp [List.getD, hj]⟩
theorem Row.nil (k : IntKind) (w : World) (B : Nat) : Row k w B none 0 0 [] := ⟨rfl, (fun _ h => by cases h), Nat.le_refl _, Nat.zero_le _, fun h => absurd h (by omega)⟩
end Go.Proofs.YtlodhleihnlchaaGreatDoor
namespace Go.Proofs.YtlodhleihnlchaaGreatDoor
open Go.RowKit

def Own (w : World) (B size : Nat) (v : Value) (n : Nat) (xs : List Value) : Prop :=
  xs.length = n * size ∧ ((v = .slice none 0 0 ∧ n = 0) ∨
    ∃ g cap, v = .slice (some ⟨g, 0, none⟩) n cap ∧ B ≤ g ∧ g < w.heap.size ∧ n ≤ cap ∧ cap ≤ maxLen ∧
      (∀ j u, xs[j]? = some u → w.cell? ⟨g, j, none⟩ = some u) ∧ (∀ j, j < cap * size → (w.cell? ⟨g, j, none⟩).isSome = true ∧ w.frozen? ⟨g, j, none⟩ = false))

section
variable {w w' : World} {B size : Nat} {v : Value} {n : Nat} {xs : List Value}

theorem Own.nil (w : World) (B size : Nat) : Own w B size (.slice none 0 0) 0 [] := ⟨by simp, .inl ⟨rfl, rfl⟩⟩
theorem Own.lt (h : Own w B size v n xs) : ∀ k, v.ownBlock = some k → B ≤ k ∧ k < w.heap.size := by
  intro k hk
  rcases h.2 with ⟨rfl, _⟩ | ⟨g, cap, rfl, hb, hg, _⟩
  · simp [Value.ownBlock] at hk
  · simp [Value.ownBlock] at hk
    subst hk
    exact ⟨hb, hg⟩
theorem Own.keep (h : Own w B size v n xs) (hs : w.heap.size ≤ w'.heap.size) (hk : ∀ k, v.ownBlock = some k → w'.heap[k]? = w.heap[k]?) : Own w' B size v n xs := by
  refine ⟨h.1, ?_⟩
  rcases h.2 with hn | ⟨g, cap, rfl, hb, hg, h1, h2, hc, hf⟩
  · exact .inl hn
  · have e : w'.heap[g]? = w.heap[g]? := hk g rfl
    exact .inr ⟨g, cap, rfl, hb, by omega, h1, h2, fun j u hu => (World.cell?_of_block (w := w) e).trans (hc j u hu), fun j hj => by
      rw [World.cell?_of_block (w := w) (a := ⟨g, j, none⟩) e, World.frozen?_of_block (w := w) (a := ⟨g, j, none⟩) e]
      exact hf j hj⟩
theorem Own.below (h : Own w B size v n xs) (hb : Below w.heap.size w w') : Own w' B size v n xs :=
  h.keep hb.size fun k hk => hb.block k (h.lt k hk).2
theorem Own.alloc (h : Own w B size v n xs) (o : Obj) : Own (w.alloc o) B size v n xs :=
  h.keep (by simp) fun k hk => Below.heap_alloc w o k (h.lt k hk).2
theorem Own.drew (h : Own w B size v n xs) : Own w.drew B size v n xs := h
theorem Own.drewN (h : Own w B size v n xs) (k : Nat) : Own (w.drewN k) B size v n xs := h
theorem Own.setCell (h : Own w B size v n xs) {p : Addr} (hp : ∀ k, v.ownBlock = some k → k ≠ p.block) (u : Value) : Own (w.setCell p u) B size v n xs :=
  h.keep (by simp [World.setCell]) fun k hk => Below.heap_setCell w p u k (hp k hk)
theorem Own.kept {row : Option Nat} (h : Own w B size v n xs) (hg : w.grownBy w' row) (hne : v.ownBlock = none ∨ v.ownBlock ≠ row) : Own w' B size v n xs :=
  h.keep hg.size fun k hk => hg.block k (h.lt k hk).2 (by rcases hne with e | e <;> simp_all)
theorem Own.less {B' : Nat} (h : Own w B size v n xs) (hB : B' ≤ B) : Own w B' size v n xs := by
  refine ⟨h.1, ?_⟩
  rcases h.2 with hn | ⟨g, cap, rfl, hb, rest⟩
  · exact .inl hn
  · exact .inr ⟨g, cap, rfl, by omega, rest⟩
theorem Own.fits (h : Own w B size v n xs) : n ≤ maxLen := by
  rcases h.2 with ⟨_, rfl⟩ | ⟨g, cap, _, _, _, h1, h2, _⟩
  · exact Nat.zero_le _
  · omega
theorem Own.form (h : Own w B size v n xs) : ∃ a cap, v = .slice a n cap ∧ n ≤ cap ∧ cap ≤ maxLen ∧ (a = none → n = 0 ∧ cap = 0) := by
  rcases h.2 with ⟨rfl, rfl⟩ | ⟨g, cap, rfl, _, _, h1, h2, _⟩
  · exact ⟨none, 0, rfl, Nat.le_refl _, Nat.zero_le _, fun _ => ⟨rfl, rfl⟩⟩
  · exact ⟨_, cap, rfl, h1, h2, fun h => by cases h⟩

theorem Own.row {k : IntKind} {zs : List Int} {a : Option Addr} {len cap : Nat} (h : Own w B 1 (.slice a len cap) n (zs.map (Value.int k))) (hw : ∀ z ∈ zs, (Lit.int k z).wf = true) : Row k w w.heap.size a len cap zs := by
  have hl := h.1
  simp at hl
  rcases h.2 with ⟨e, rfl⟩ | ⟨g, c, e, hb, hg, h1, h2, hc, _⟩
  · injection e with e1 e2 e3
    subst e1; subst e2; subst e3
    obtain rfl : zs = [] := List.eq_nil_of_length_eq_zero hl
    exact Row.nil _ _ _
  · injection e with e1 e2 e3
    subst e1; subst e2; subst e3
    exact ⟨hl, hw, h1, h2, fun hp => ⟨g, 0, rfl, hg, fun j hj => by
      rw [Nat.zero_add]
      exact hc j _ (by simp [List.getD, show j < zs.length by omega])⟩⟩

theorem Own.made (w : World) (cur : Array Value) (e : TypeId) (cap : Nat) (hb : B ≤ w.heap.size) (hm : cap ≤ maxLen) (hs : cur.size = cap * size) :
    Own (w.alloc (.cells cur e)) B size (.slice (some ⟨w.heap.size, 0, none⟩) 0 cap) 0 [] := by
  have e1 : (w.alloc (.cells cur e)).heap[w.heap.size]? = some (.cells cur e) := (MapKept.heap_alloc w _).1
  refine ⟨by simp, .inr ⟨w.heap.size, cap, rfl, hb, by simp, Nat.zero_le _, hm, by simp, fun j hj => ?_⟩⟩
  unfold World.cell? World.frozen?
  rw [e1]
  simp [show j < cur.size by omega]

theorem Own.bytes (w : World) (cur : Array Value) (e : TypeId) (cap : Nat) (xs : List Value) (hb : B ≤ w.heap.size) (hn : n ≤ cap) (hm : cap ≤ maxLen) (hs : cur.size = cap) (hl : xs.length = n) (hx : cur.toList.take n = xs) (m1 : Nat) :
    Own (w.alloc (.cells cur e (cur.size, m1))) B 1 (.slice (some ⟨w.heap.size, 0, none⟩) n cap) n xs := by
  have e1 : (w.alloc (.cells cur e (cur.size, m1))).heap[w.heap.size]? = some (.cells cur e (cur.size, m1)) := (MapKept.heap_alloc w _).1
  refine ⟨by simp [hl], .inr ⟨w.heap.size, cap, rfl, hb, by simp, hn, hm, fun j u hu => ?_, fun j hj => ?_⟩⟩
  · unfold World.cell?
    rw [e1]
    rw [← hx, List.getElem?_take] at hu
    split at hu
    · simpa using hu
    · cases hu
  · unfold World.cell? World.frozen?
    rw [e1]
    simp [show j < cur.size by omega]
    intro h
    omega
end

section
variable {P : Program} (w : World)

theorem run_append_src (B : Nat) (t tx ty e : TypeId) (i : TypeInfo) (z : Value) (size bytes : Nat) (ht : P.underlying t = some (.slice e)) (hi : P.info? e = some i) (hz : i.zero = some z)
    (hsize : i.size = size) (hby : i.bytes = bytes) (hzs : z.cells.size = size)
    (v : Value) (n : Nat) (xs : List Value) (hown : Own w B size v n xs)
    (x : Value) (m : Nat) (news : List Value) (hs : Go.Src P size tx x m news w)
    (h63 : n + m ≤ maxLen) (hbytes : (n + m) * bytes ≤ 140737488355328) (hB : B ≤ w.heap.size) :
    ∃ v' w', (Builtin.append_ #[t, tx] ty #[v, x]).run P w = .ok v' w' ∧ Own w' B size v' (n + m) (xs ++ news) ∧ w.grownBy w' v.ownBlock ∧ (v'.ownBlock = v.ownBlock ∨ v'.ownBlock = some w.heap.size) := by
  subst hsize
  subst hby
  have hlen : (xs ++ news).length = (n + m) * i.size := by rw [List.length_append, hown.1, hs.newsLen, Nat.add_mul]
  have grown : ∀ (old : Nat) (row : Option Nat),
      Own (w.drew.alloc (.cells ((xs ++ news).toArray ++ Builtin.zeroCells z.cells (grownCap w (n + m) old e - (n + m))) e)) B i.size
        (.slice (some ⟨w.heap.size, 0, none⟩) (n + m) (grownCap w (n + m) old e)) (n + m) (xs ++ news) ∧
      w.grownBy (w.drew.alloc (.cells ((xs ++ news).toArray ++ Builtin.zeroCells z.cells (grownCap w (n + m) old e - (n + m))) e)) row := by
    intro old row
    have hge := grownCap_ge w (n + m) old e
    have hcm : grownCap w (n + m) old e ≤ maxLen := grownCap_le_maxLen w (n + m) old e h63
    have e1 := (MapKept.heap_alloc w.drew (.cells ((xs ++ news).toArray ++ Builtin.zeroCells z.cells (grownCap w (n + m) old e - (n + m))) e)).1
    have e2 : w.drew.heap.size = w.heap.size := rfl
    rw [e2] at e1
    refine ⟨⟨hlen, .inr ⟨w.heap.size, _, rfl, hB, by simp, hge, hcm, fun j u hu => ?_, fun j hj => ?_⟩⟩, ⟨rfl, rfl, rfl, by simp, fun k hk _ => Below.heap_alloc w.drew _ k hk⟩⟩
    · unfold World.cell?
      rw [e1]
      have hj := (List.getElem?_eq_some_iff.1 hu).1
      simp only [Array.getElem?_append, List.size_toArray, hj, if_true]
      simpa using hu
    · have hsz : j < ((xs ++ news).toArray ++ Builtin.zeroCells z.cells (grownCap w (n + m) old e - (n + m))).size := by
        simp only [Array.size_append, List.size_toArray, size_zeroCells, hzs, hlen, ← Nat.add_mul]
        rw [Nat.add_sub_cancel' hge]
        exact hj
      unfold World.cell? World.frozen?
      rw [e1]
      simp only [Array.getElem?_eq_getElem hsz]
      simp
  rcases hown.2 with ⟨rfl, rfl⟩ | ⟨g, cap, rfl, hbg, hgl, hnc, hcm, hcell, hroomc⟩
  · have hx : xs = [] := List.eq_nil_of_length_eq_zero (by simpa using hown.1)
    subst hx
    by_cases hm : m = 0
    · subst hm
      have hn : news = [] := List.eq_nil_of_length_eq_zero (by simpa using hs.newsLen)
      subst hn
      refine ⟨.slice none 0 0, w, ?_, Own.nil w B i.size, ⟨rfl, rfl, rfl, Nat.le_refl _, fun _ _ _ => rfl⟩, .inl rfl⟩
      rcases hs.kind with ⟨e', hk⟩ | hk <;> simp [Builtin.append_, run_underlying ht, run_underlying hk, sizeOf, typeInfo, hi, hs.len, hs.cells]
    · have hr := run_append_grow_src (P := P) w t tx ty e i z ht hi hz none 0 0 [] (run_firstCells_none w.drew i.size 0 0 0) x m news hs (by omega) (by simp only [maxLen] at h63; omega) (growslice_fits (by omega) hbytes)
      have hgr := grown 0 (Value.ownBlock (.slice none 0 0))
      exact ⟨_, _, hr, hgr.1, hgr.2, .inr rfl⟩
  · by_cases hroom : n + m ≤ cap
    · have hfit : ∀ j, j < news.length → n * i.size + j < cap * i.size := by
        intro j hj
        have h1 : (n + m) * i.size ≤ cap * i.size := Nat.mul_le_mul_right _ hroom
        rw [Nat.add_mul, ← hs.newsLen] at h1
        omega
      have hr := run_append_room_src (P := P) w t tx ty e i ht hi g 0 n cap x m news hs hroom
        (fun j hj => by rw [Nat.zero_add]; exact (hroomc _ (hfit j hj)).1) (fun j hj => by rw [Nat.zero_add]; exact (hroomc _ (hfit j hj)).2)
      rw [Nat.zero_add] at hr
      have hk := World.keptBut_setCells g (may := fun _ => True) news (n * i.size) w (fun _ _ => trivial)
      have hsz : (w.setCells g (n * i.size) news).heap.size = w.heap.size := by
        have : ∀ (vs : List Value) (o : Nat) (u : World), (u.setCells g o vs).heap.size = u.heap.size := by
          intro vs
          induction vs with
          | nil => intro o u; rfl
          | cons c cs ih => intro o u; show ((u.setCell _ _).setCells g _ cs).heap.size = _; rw [ih]; simp [World.setCell]
        exact this _ _ _
      have htp : ∀ (vs : List Value) (o : Nat) (u : World), (u.setCells g o vs).tape = u.tape := by
        intro vs
        induction vs with
        | nil => intro o u; rfl
        | cons c cs ih => intro o u; show ((u.setCell _ _).setCells g _ cs).tape = _; rw [ih]; rfl
      refine ⟨_, _, hr, ⟨hlen, .inr ⟨g, cap, rfl, hbg, by rw [hsz]; exact hgl, hroom, hcm, fun j u hu => ?_, fun j hj => ?_⟩⟩,
        ⟨World.os_setCells w g _ _, htp _ _ _, World.output_setCells w g _ _, by rw [hsz]; exact Nat.le_refl _, fun k hk hne => World.heap_setCells_other w g _ _ hk (fun e => hne (by simp [Value.ownBlock, e]))⟩, .inl rfl⟩
      · rcases Nat.lt_or_ge j xs.length with hj | hj
        · rw [World.cell?_setCells_out g news (n * i.size) w ⟨g, j, none⟩ (fun _ _ => .inl (by rw [← hown.1]; exact hj))]
          rw [List.getElem?_append_left hj] at hu
          exact hcell j u hu
        · rw [List.getElem?_append_right hj] at hu
          have hj2 := (List.getElem?_eq_some_iff.1 hu).1
          have key := World.cell?_setCells_in g news (n * i.size) w (fun j hj => (hroomc _ (hfit j hj)).1) (j - xs.length) hj2
          have eo : n * i.size + (j - xs.length) = j := by rw [← hown.1]; omega
          rw [eo] at key
          rw [key]
          rw [List.getElem?_eq_getElem hj2] at hu
          exact hu
      · refine ⟨World.isSome_setCells g news _ w _ (hroomc j hj).1, ?_⟩
        rw [World.frozen?_setCells]
        exact (hroomc j hj).2
    · have hold : (Builtin.firstCells i.size n (.slice (some ⟨g, 0, none⟩) n cap)).run P w.drew = .ok xs.toArray w.drew :=
        run_firstCells_some w.drew i.size n ⟨g, 0, none⟩ n cap xs hown.1 (fun j u hu => by
          have := hcell j u hu
          rw [Addr.add_lit, Nat.zero_add]
          exact this)
      have hr := run_append_grow_src (P := P) w t tx ty e i z ht hi hz (some ⟨g, 0, none⟩) n cap xs hold x m news hs (by omega) (by simp only [maxLen] at h63; omega) (growslice_fits (by omega) hbytes)
      have hgr := grown cap (Value.ownBlock (.slice (some ⟨g, 0, none⟩) n cap))
      exact ⟨_, _, hr, hgr.1, hgr.2, .inr rfl⟩

theorem wp_append_src {o : Oper} {a : Act} {K : Act → World → Prop} {Q : Exit → Act → World → Prop} (s y : Operand) (t tx : TypeId)
    (ho : o.op = .call { callee := .builtin .append, args := #[s, y], argTypes := #[t, tx] })
    (B : Nat) (e : TypeId) (i : TypeInfo) (z : Value) (size bytes : Nat) (ht : P.underlying t = some (.slice e)) (hi : P.info? e = some i) (hz : i.zero = some z)
    (hsize : i.size = size) (hby : i.bytes = bytes) (hzs : z.cells.size = size)
    (v : Value) (n : Nat) (xs : List Value) (hsv : a.eval s = v) (hown : Own w B size v n xs)
    (x : Value) (m : Nat) (news : List Value) (hx : a.eval y = x) (hs : Go.Src P size tx x m news w)
    (h63 : n + m ≤ maxLen) (hbytes : (n + m) * bytes ≤ 140737488355328) (hB : B ≤ w.heap.size)
    (h : ∀ v' w', Own w' B size v' (n + m) (xs ++ news) → w.grownBy w' v.ownBlock → (v'.ownBlock = v.ownBlock ∨ v'.ownBlock = some w.heap.size) → K (a.put o.dst v') w') : o.wp P a w K Q := by
  obtain ⟨v', w', hr, h2, h3, h4⟩ := run_append_src (P := P) w B t tx o.type e i z size bytes ht hi hz hsize hby hzs v n xs hown x m news hs h63 hbytes hB
  unfold Oper.wp execOp
  simp only [ho, resolve, invoke, builtin, Sem.run_bind, Sem.run_pure, Result.andThen_ok, List.map_toArray, List.map_cons, List.map_nil, hsv, hx, hr]
  exact h v' w' h2 h3 h4

theorem wpList_append_src {ops : Array Oper} {rest : List Oper} {o : Oper} {a : Act} {Q : Exit → Act → World → Prop} (hgd : o.guard = none) (s y : Operand) (t tx : TypeId)
    (ho : o.op = .call { callee := .builtin .append, args := #[s, y], argTypes := #[t, tx] })
    (B : Nat) (e : TypeId) (i : TypeInfo) (z : Value) (size bytes : Nat) (ht : P.underlying t = some (.slice e)) (hi : P.info? e = some i) (hz : i.zero = some z)
    (hsize : i.size = size) (hby : i.bytes = bytes) (hzs : z.cells.size = size)
    (v : Value) (n : Nat) (xs : List Value) (hsv : a.eval s = v) (hown : Own w B size v n xs)
    (x : Value) (m : Nat) (news : List Value) (hx : a.eval y = x) (hs : Go.Src P size tx x m news w)
    (h63 : n + m ≤ maxLen) (hbytes : (n + m) * bytes ≤ 140737488355328) (hB : B ≤ w.heap.size)
    (h : ∀ v' w', Own w' B size v' (n + m) (xs ++ news) → w.grownBy w' v.ownBlock → (v'.ownBlock = v.ownBlock ∨ v'.ownBlock = some w.heap.size) → wpList P ops Q rest (a.put o.dst v') w') : wpList P ops Q (o :: rest) a w :=
  wpList_plain hgd fun _ hK => wp_append_src w s y t tx ho B e i z size bytes ht hi hz hsize hby hzs v n xs hsv hown x m news hx hs h63 hbytes hB fun v' w' h2 h3 h4 => hK _ _ (h v' w' h2 h3 h4)

end

end Go.Proofs.YtlodhleihnlchaaGreatDoor
namespace Go.Proofs.YtlodhleihnlchaaGreatDoor.M

theorem emod_mul (a b m : Int) : a % m * (b % m) % m = a * b % m := (Int.mul_emod a b m).symm
theorem emod_mul_l (a b m : Int) : a % m * b % m = a * b % m := by rw [Int.mul_emod, Int.emod_emod, ← Int.mul_emod]
def pw (a : Int) (e : Nat) (m : Int) : Int := a ^ e % m

theorem pw_bd (a : Int) (e : Nat) {m : Int} (h : 1 ≤ m) : 0 ≤ pw a e m ∧ pw a e m < m :=
  ⟨Int.emod_nonneg _ (by omega), Int.emod_lt_of_pos _ (by omega)⟩
theorem pw_zero (a m : Int) : pw a 0 m = 1 % m := by unfold pw; rw [Int.pow_zero]
theorem pw_one {a m : Int} (h0 : 0 ≤ a) (h : a < m) : pw a 1 m = a := by
  unfold pw; rw [Int.pow_succ, Int.pow_zero, Int.one_mul]; exact Int.emod_eq_of_lt h0 h
theorem pw_add (a : Int) (e f : Nat) (m : Int) : pw a e m * pw a f m % m = pw a (e + f) m := by
  unfold pw; rw [emod_mul, Int.pow_add]
theorem pw_base (a : Int) (e : Nat) (m : Int) : pw (a % m) e m = pw a e m := by
  unfold pw
  induction e with
  | zero => rw [Int.pow_zero, Int.pow_zero]
  | succ n ih => rw [Int.pow_succ, Int.pow_succ, Int.mul_emod, ih, Int.emod_emod, ← Int.mul_emod]
theorem pw_pw (a : Int) (e f : Nat) (m : Int) : pw (pw a e m) f m = pw a (e * f) m := by
  show pw (a ^ e % m) f m = _
  rw [pw_base]; unfold pw; rw [Int.pow_mul]
theorem pw_one_base (e : Nat) (m : Int) : pw 1 e m = 1 % m := by unfold pw; rw [Int.one_pow]

theorem bit_one (a : Int) (e k : Nat) (m : Int) (h : e / 2 ^ k % 2 = 1) : pw a (e % 2 ^ k) m * pw a (2 ^ k) m % m = pw a (e % 2 ^ (k + 1)) m := by
  rw [pw_add]; congr 1
  rw [Nat.pow_succ, Nat.mod_mul, h, Nat.mul_one]
theorem bit_zero (a : Int) (e k : Nat) (m : Int) (h : e / 2 ^ k % 2 = 0) : pw a (e % 2 ^ k) m = pw a (e % 2 ^ (k + 1)) m := by
  congr 1
  rw [Nat.pow_succ, Nat.mod_mul, h, Nat.mul_zero, Nat.add_zero]
theorem square (a : Int) (k : Nat) (m : Int) : pw a (2 ^ k) m * pw a (2 ^ k) m % m = pw a (2 ^ (k + 1)) m := by
  rw [pw_add]; congr 1; rw [Nat.pow_succ]; omega

def Keep (A : Int) (E : Nat) (m n a : Int) (e : Nat) : Prop := n * a ^ e % m = A ^ E % m
theorem keep_start (A : Int) (E : Nat) (m : Int) : Keep A E m (1 % m) A E := by
  unfold Keep; rw [emod_mul_l, Int.one_mul]
theorem keep_odd {A : Int} {E : Nat} {m n a : Int} {e : Nat} (h : Keep A E m n a e) (ho : e % 2 = 1) : Keep A E m (n * a % m) (a * a % m) (e / 2) := by
  unfold Keep at *
  have h1 : (a * a % m) ^ (e / 2) % m = (a * a) ^ (e / 2) % m := pw_base (a * a) (e / 2) m
  rw [Int.mul_emod, h1, Int.emod_emod, ← Int.mul_emod, ← h]
  congr 1
  rw [show a * a = a ^ 2 from by rw [Int.pow_succ, Int.pow_succ, Int.pow_zero, Int.one_mul], ← Int.pow_mul, Int.mul_assoc]
  congr 1
  rw [← Int.pow_succ']; congr 1; omega
theorem keep_even {A : Int} {E : Nat} {m n a : Int} {e : Nat} (h : Keep A E m n a e) (ho : e % 2 = 0) : Keep A E m n (a * a % m) (e / 2) := by
  unfold Keep at *
  have h1 : (a * a % m) ^ (e / 2) % m = (a * a) ^ (e / 2) % m := pw_base (a * a) (e / 2) m
  rw [Int.mul_emod, h1, ← Int.mul_emod, ← h]
  congr 1
  rw [show a * a = a ^ 2 from by rw [Int.pow_succ, Int.pow_succ, Int.pow_zero, Int.one_mul], ← Int.pow_mul]
  congr 2; omega
theorem keep_end {A : Int} {E : Nat} {m n a : Int} (h : Keep A E m n a 0) (h0 : 0 ≤ n) (h1 : n < m) : n = pw A E m := by
  unfold Keep at h
  rw [Int.pow_zero, Int.mul_one, Int.emod_eq_of_lt h0 h1] at h
  exact h
theorem mul_bd {x y M : Int} (hx : 0 ≤ x) (hx' : x < M) (hy : 0 ≤ y) (hy' : y < M) (hM : M ≤ 1000000) : 0 ≤ x * y ∧ x * y ≤ 1000000000000 := by
  refine ⟨Int.mul_nonneg hx hy, ?_⟩
  calc x * y ≤ 1000000 * 1000000 := Int.mul_le_mul (by omega) (by omega) hy (by omega)
    _ = 1000000000000 := by decide
theorem mod_bd (x : Int) {m : Int} (h : 1 ≤ m) : 0 ≤ x % m ∧ x % m < m := ⟨Int.emod_nonneg _ (by omega), Int.emod_lt_of_pos _ (by omega)⟩
theorem prod2 (x y m : Int) : 1 % m * x % m * y % m = x * y % m := by rw [emod_mul_l 1 x m, Int.one_mul, emod_mul_l]
end Go.Proofs.YtlodhleihnlchaaGreatDoor.M
namespace Go.Proofs.YtlodhleihnlchaaGreatDoor.M

def sumStep (n b : Int) : Int := (n * 251 + b + 1) % 65521
def sumL (zs : List Int) : Int := zs.foldl sumStep 17
theorem sumFold_bd : ∀ (zs : List Int) (n : Int), 0 ≤ n → n < 65521 → 0 ≤ zs.foldl sumStep n ∧ zs.foldl sumStep n < 65521
  | [], n, h0, h1 => ⟨h0, h1⟩
  | b :: r, n, _, _ => sumFold_bd r _ (Int.emod_nonneg _ (by omega)) (Int.emod_lt_of_pos _ (by omega))
theorem sumL_bd (zs : List Int) : 0 ≤ sumL zs ∧ sumL zs < 65521 := sumFold_bd zs 17 (by omega) (by omega)
theorem sumL_snoc (zs : List Int) (b : Int) : sumL (zs ++ [b]) = (sumL zs * 251 + b + 1) % 65521 := by
  simp [sumL, List.foldl_append, sumStep]
theorem take_snoc {α : Type} (zs : List α) (d : α) (k : Nat) (h : k < zs.length) : zs.take (k + 1) = zs.take k ++ [zs[k]?.getD d] := by
  rw [List.take_succ_eq_append_getElem h]; simp [h]
theorem sumL_take (zs : List Int) (k : Nat) (h : k < zs.length) : (sumL (zs.take k) * 251 + zs[k]?.getD 0 + 1) % 65521 = sumL (zs.take (k + 1)) := by
  rw [take_snoc zs 0 k h, sumL_snoc]

def lowB (c : UInt8) : Bool := decide (97 ≤ (c.toNat : Int) ∧ (c.toNat : Int) ≤ 122)
def lowTo (s : ByteArray) (k : Nat) : Bool := (s.data.toList.take k).all lowB
def labB (s : ByteArray) : Bool := decide (1 ≤ s.size ∧ s.size ≤ 12) && lowTo s s.size
theorem lowTo_zero (s : ByteArray) : lowTo s 0 = true := by simp [lowTo]
theorem data_take (s : ByteArray) (k : Nat) (h : k < s.size) : s.data.toList.take (k + 1) = s.data.toList.take k ++ [s[k]] := by
  rw [List.take_succ_eq_append_getElem (by simpa using h)]; rfl
theorem lowTo_succ (s : ByteArray) (k : Nat) (h : k < s.size) : lowTo s (k + 1) = (lowTo s k && lowB s[k]) := by
  simp [lowTo, data_take s k h, List.all_append]
theorem lowTo_next (s : ByteArray) (k : Nat) (h : k < s.size) (hl : lowTo s k = true) (h0 : 97 ≤ (s[k].toNat : Int)) (h1 : (s[k].toNat : Int) ≤ 122) : lowTo s (k + 1) = true := by
  rw [lowTo_succ s k h, hl]; simp [lowB]; omega
theorem lowTo_mono (s : ByteArray) : ∀ (d k : Nat), lowTo s (k + d) = true → lowTo s k = true
  | 0, _, h => h
  | d + 1, k, h => by
    have h2 := lowTo_mono s d (k + 1) (by rw [← h]; congr 1; omega)
    rcases Nat.lt_or_ge k s.size with hk | hk
    · rw [lowTo_succ s k hk] at h2; simp only [Bool.and_eq_true] at h2; exact h2.1
    · unfold lowTo at h2 ⊢
      rw [List.take_of_length_le (by simpa using (show s.size ≤ k from hk))]
      rw [List.take_of_length_le (by have : s.data.toList.length = s.size := (by simp); omega)] at h2
      exact h2
theorem labB_stop (s : ByteArray) (k : Nat) (h : k < s.size) (hb : (s[k].toNat : Int) < 97 ∨ 122 < (s[k].toNat : Int)) : labB s = false := by
  have h1 : lowTo s (k + 1) = false := by
    rw [lowTo_succ s k h]
    have : lowB s[k] = false := by simp only [lowB, decide_eq_false_iff_not]; omega
    rw [this]; simp
  have h2 : lowTo s s.size = false := by
    cases he : lowTo s s.size
    · rfl
    · have := lowTo_mono s (s.size - (k + 1)) (k + 1) (by rw [show k + 1 + (s.size - (k + 1)) = s.size by omega]; exact he)
      rw [h1] at this; cases this
  simp [labB, h2]
theorem labB_all (s : ByteArray) (h : lowTo s s.size = true) (h0 : 1 ≤ s.size) (h1 : s.size ≤ 12) : labB s = true := by simp [labB, h, h0, h1]
theorem labB_short (s : ByteArray) (h : s.size < 1) : labB s = false := by simp [labB]; omega
theorem labB_long (s : ByteArray) (h : 12 < s.size) : labB s = false := by simp [labB]; omega
theorem labB_size {s : ByteArray} (h : labB s = true) : 1 ≤ s.size ∧ s.size ≤ 12 := by simp [labB] at h; exact h.1

def sumB (v : Int) : Bool := decide (0 ≤ v ∧ v ≤ 65520)
def textL (s : ByteArray) : List Int := s.data.toList.map fun c => (c.toNat : Int)
def two (n : Int) : List Int := [n / 256, n % 256]
def tagBytes (s : ByteArray) (zs : List Int) : List Int := textL s ++ [0] ++ zs.flatMap two
def tagL (s : ByteArray) (zs : List Int) : Int := sumL (tagBytes s zs)
theorem tagBytes_nil (s : ByteArray) : tagBytes s [] = textL s ++ [0] := by simp [tagBytes]
theorem tagBytes_snoc (s : ByteArray) (zs : List Int) (n : Int) : tagBytes s (zs ++ [n]) = tagBytes s zs ++ two n := by
  simp [tagBytes, List.flatMap_append]
theorem tagBytes_take (s : ByteArray) (zs : List Int) (k : Nat) (h : k < zs.length) : tagBytes s (zs.take k) ++ two (zs[k]?.getD 0) = tagBytes s (zs.take (k + 1)) := by
  rw [take_snoc zs 0 k h, tagBytes_snoc]
theorem textL_length (s : ByteArray) : (textL s).length = s.size := by simp [textL]
theorem two_length (zs : List Int) : (zs.flatMap two).length = 2 * zs.length := by
  induction zs with
  | nil => rfl
  | cons a r ih => simp only [List.flatMap_cons, List.length_append, ih, two, List.length_cons, List.length_nil]; omega
theorem tagBytes_length (s : ByteArray) (zs : List Int) : (tagBytes s zs).length = s.size + 1 + 2 * zs.length := by
  simp only [tagBytes, List.length_append, textL_length, two_length, List.length_cons, List.length_nil]
def byteB (b : Int) : Prop := 0 ≤ b ∧ b ≤ 255
theorem two_byte {n : Int} (h : sumB n = true) : ∀ b ∈ two n, byteB b := by
  simp only [sumB, decide_eq_true_eq] at h
  intro b hb
  simp only [two, List.mem_cons, List.not_mem_nil, or_false] at hb
  unfold byteB
  omega
theorem textL_byte (s : ByteArray) : ∀ b ∈ textL s, byteB b := by
  intro b hb
  simp only [textL, List.mem_map] at hb
  obtain ⟨c, _, rfl⟩ := hb
  have := c.toNat_lt
  unfold byteB
  omega
theorem tagBytes_byte (s : ByteArray) (zs : List Int) (h : ∀ z ∈ zs, sumB z = true) : ∀ b ∈ tagBytes s zs, byteB b := by
  intro b hb
  simp only [tagBytes, List.mem_append, List.mem_cons, List.not_mem_nil, or_false, List.mem_flatMap] at hb
  rcases hb with (hb | rfl) | ⟨a, ha, hb⟩
  · exact textL_byte s b hb
  · unfold byteB; omega
  · exact two_byte (h a ha) b hb
theorem tagL_bd (s : ByteArray) (zs : List Int) : 0 ≤ tagL s zs ∧ tagL s zs < 65521 := sumL_bd _

def sumR (zs : List Int) : Int × Int := if 1000 < zs.length then (2, 0) else (0, sumL zs)
def tagR (s : ByteArray) (zs : List Int) : Int × Int :=
  if labB s = false then (5, 0) else if 40 < zs.length then (2, 0) else if zs.all sumB then (0, tagL s zs) else (3, 0)
theorem all_take (p : Int → Bool) (zs : List Int) (k : Nat) (h : k < zs.length) (hk : (zs.take k).all p = true) (hp : p (zs[k]?.getD 0) = true) : (zs.take (k + 1)).all p = true := by
  rw [take_snoc zs 0 k h, List.all_append, hk]; simp [hp]
end Go.Proofs.YtlodhleihnlchaaGreatDoor.M
namespace Go.Proofs.YtlodhleihnlchaaGreatDoor.M

abbrev streamS : ByteArray := { data := #[115, 116, 114, 101, 97, 109] }
abbrev heardS : ByteArray := { data := #[104, 101, 97, 114, 100] }
abbrev nonceS : ByteArray := { data := #[110, 111, 110, 99, 101] }
abbrev signS : ByteArray := { data := #[115, 105, 103, 110] }
abbrev macS : ByteArray := { data := #[109, 97, 99] }
abbrev sealS : ByteArray := { data := #[115, 101, 97, 108] }
abbrev spkiS : ByteArray := { data := #[115, 112, 107, 105] }
abbrev rollS : ByteArray := { data := #[114, 111, 108, 108] }
abbrev masterS : ByteArray := { data := #[109, 97, 115, 116, 101, 114] }
abbrev verifyS : ByteArray := { data := #[118, 101, 114, 105, 102, 121] }
abbrev finishS : ByteArray := { data := #[102, 105, 110, 105, 115, 104] }
abbrev upS : ByteArray := { data := #[117, 112] }
abbrev downS : ByteArray := { data := #[100, 111, 119, 110] }
def streamB (key seq : Int) (i : Nat) : Int := tagL streamS [key, seq, i] % 256
def streamL (key seq : Int) (n : Nat) : List Int := (List.range n).map (streamB key seq)
theorem streamL_succ (key seq : Int) (n : Nat) : streamL key seq (n + 1) = streamL key seq n ++ [streamB key seq n] := by simp [streamL, List.range_succ]
def longB (zs : List Int) : Bool := decide (1000 < zs.length)
def heardL (zss : List (List Int)) : Int := tagL heardS (zss.map sumL)
def heardR (zss : List (List Int)) : Int × Int := if 10 < zss.length then (2, 0) else if zss.any longB then (2, 0) else (0, heardL zss)
theorem sums_ok (zss : List (List Int)) : (zss.map sumL).all sumB = true := by
  rw [List.all_eq_true]
  intro x hx
  obtain ⟨zs, _, rfl⟩ := List.mem_map.1 hx
  have := sumL_bd zs
  simp [sumB]; omega
theorem heard_label : labB heardS = true := by decide +kernel
theorem heardR_tag (zss : List (List Int)) (h : zss.length ≤ 10) (hl : zss.any longB = false) : heardR zss = tagR heardS (zss.map sumL) := by
  have h1 : ¬ 10 < zss.length := by omega
  have h2 : ¬ 40 < zss.length := by omega
  simp only [heardR, tagR, heard_label, h1, hl, if_false, Bool.false_eq_true, List.length_map, h2, sums_ok, if_true, Bool.true_eq_false, heardL]
theorem any_take {α : Type} (p : α → Bool) (zs : List α) (d : α) (k : Nat) (h : k < zs.length) (hk : (zs.take k).any p = false) (hp : p (zs[k]?.getD d) = false) : (zs.take (k + 1)).any p = false := by
  rw [take_snoc zs d k h, List.any_append, hk]; simp [hp]
theorem map_take_snoc {α β : Type} (f : α → β) (zs : List α) (d : α) (k : Nat) (h : k < zs.length) : (zs.take k).map f ++ [f (zs[k]?.getD d)] = (zs.take (k + 1)).map f := by
  rw [take_snoc zs d k h]; simp
end Go.Proofs.YtlodhleihnlchaaGreatDoor.M
namespace Go.Proofs.YtlodhleihnlchaaGreatDoor
open Go.RowKit

def inB (v a b : Int) : Bool := decide (a ≤ v ∧ v ≤ b)

theorem l1In_any (v a b : Int) (w : World) :
    Calls Tryz.prog 151 #[.int .i64 v, .int .i64 a, .int .i64 b] w fun e w' => e = .returned (.bool (inB v a b)) ∧ w = w' := by
  by_cases h1 : a ≤ v
  · by_cases h2 : v ≤ b
    · have e : inB v a b = true := by simp [inB, h1, h2]
      rw [e]; clear e
      go_enter Tryz.func151, Tryz.ntmps151
      go_wp2
      go_ret
      simp
    · have e : inB v a b = false := by simp [inB, h2]
      rw [e]; clear e
      go_enter Tryz.func151, Tryz.ntmps151
      go_wp2
      go_ret
      simp
  · have e : inB v a b = false := by simp [inB, h1]
    rw [e]; clear e
    go_enter Tryz.func151, Tryz.ntmps151
    go_wp2
    go_ret
    simp

theorem product_none (m : Int) (w : World) (h1 : 1 ≤ m) (h2 : m ≤ 1000000) :
    Calls Tryz.prog 183 #[.int .i64 m, .slice none 0 0] w fun e w' => e = .returned (.int .i64 (1 % m)) ∧ w = w' := by
  go_enter Tryz.func183, Tryz.ntmps183
  go_wp2
  refine wp_loop_rounds 1 ?_
  rw [rounds_succ]; go_wp2
  go_ret
  simp

theorem product_two (m x y : Int) (b : Nat) (w : World) (h1 : 1 ≤ m) (h2 : m ≤ 1000000) (hx0 : 0 ≤ x) (hx1 : x < m) (hy0 : 0 ≤ y) (hy1 : y < m)
    (c0 : w.cell? ⟨b, 0, none⟩ = some (.int .i64 x)) (c1 : w.cell? ⟨b, 1, none⟩ = some (.int .i64 y)) :
    Calls Tryz.prog 183 #[.int .i64 m, .slice (some ⟨b, 0, none⟩) 2 2] w fun e w' => e = .returned (.int .i64 (x * y % m)) ∧ w = w' := by
  have b0 := M.mod_bd 1 h1
  have b1 := M.mod_bd (1 % m * x) h1
  have p1 := M.mul_bd b0.1 b0.2 hx0 hx1 h2
  have p2 := M.mul_bd b1.1 b1.2 hy0 hy1 h2
  obtain ⟨b00, b01⟩ := b0
  obtain ⟨b10, b11⟩ := b1
  obtain ⟨p10, p11⟩ := p1
  obtain ⟨p20, p21⟩ := p2
  go_enter Tryz.func183, Tryz.ntmps183
  go_wp2
  refine wp_loop_rounds 3 ?_
  rw [rounds_succ]; go_wp2
  rw [rounds_succ]; go_wp2
  rw [rounds_succ]; go_wp2
  go_ret
  exact ⟨by rw [M.prod2]; rfl, rfl⟩

theorem and_one (n : Int) : bits .and .i64 n 1 = n % 2 := by
  have h1 : (BitVec.ofInt 64 1).toNat = 2 ^ 1 - 1 := by decide
  have key : (BitVec.ofInt 64 n &&& BitVec.ofInt 64 1).toNat = (n % ((2 ^ 64 : Nat) : Int)).toNat % 2 ^ 1 := by
    rw [BitVec.toNat_and, BitVec.toNat_ofInt, h1, Nat.and_two_pow_sub_one_eq_mod]
  show IntKind.i64.wrap ((BitVec.ofInt 64 n &&& BitVec.ofInt 64 1).toNat : Nat) = n % 2
  rw [key, IntKind.wrap_i64]
  omega

theorem bit_of (e k : Nat) : bits .and .i64 ((e : Int) / 2 ^ k) 1 = ((e / 2 ^ k % 2 : Nat) : Int) := by
  rw [and_one]; simp

theorem power_any (m a : Int) (e : Nat) (w : World) (h1 : 1 ≤ m) (h2 : m ≤ 1000000) (ha0 : 0 ≤ a) (ha1 : a < m) :
    Calls Tryz.prog 170 #[.int .i64 m, .int .i64 a, .int .i64 e] w fun r w' => r = .returned (.int .i64 (M.pw a (e % 2 ^ 30) m)) ∧ Below w.heap.size w w' := by
  go_enter Tryz.func170, Tryz.ntmps170
  go_wp2_with fail
  refine (product_none _ _ h1 h2).mono ?_
  rintro r w' ⟨rfl, rfl⟩
  go_wp2_with fail
  go_loopw [7, 8, 13] (fun v q i wr => ∃ k : Nat, k ≤ 30 ∧ i = .int .i64 k ∧ v = .int .i64 (M.pw a (e % 2 ^ k) m) ∧ q = .int .i64 (M.pw a (2 ^ k) m) ∧ Below w.heap.size w wr) (fun _ _ i _ => 30 - (intOf i).toNat)
  case atStart => exact ⟨0, by omega, rfl, by rw [Nat.pow_zero, Nat.mod_one, M.pw_zero], by rw [Nat.pow_zero, M.pw_one ha0 ha1], Below.refl _ _⟩
  case round =>
    obtain ⟨k, hk, rfl, rfl, rfl, hb⟩ := hrel
    obtain ⟨v0, v1⟩ := M.pw_bd a (e % 2 ^ k) h1
    obtain ⟨q0, q1⟩ := M.pw_bd a (2 ^ k) h1
    by_cases hlt : k < 30
    · have hn := bit_of e k
      have Hs := Lib.hid (M.square a k m)
      have hz := hb.size
      by_cases ho : e / 2 ^ k % 2 = 1
      · have ht : (bits .and .i64 ((e : Int) / 2 ^ k) 1 == 1) = true := by rw [hn, ho]; rfl
        have H1 := Lib.hid (M.bit_one a e k m ho)
        clear hn ho
        go_wp2_with fail
        refine (product_two _ _ _ _ _ h1 h2 v0 v1 q0 q1 (by go_simp) (by go_simp)).mono ?_
        rintro r w' ⟨rfl, rfl⟩
        go_wp2_with fail
        refine (product_two _ _ _ _ _ h1 h2 q0 q1 q0 q1 (by go_simp) (by go_simp)).mono ?_
        rintro r w' ⟨rfl, rfl⟩
        go_wp2_with fail
        go_roundw
        case rel => exact ⟨k + 1, by omega, by go_num, by rw [H1.out], by rw [Hs.out], (hb.alloc hz _).alloc (by simp; omega) _⟩
        case measure => simp [intOf]; omega
      · have h0 : e / 2 ^ k % 2 = 0 := by omega
        have ht : (bits .and .i64 ((e : Int) / 2 ^ k) 1 == 1) = false := by rw [hn, h0]; rfl
        have H1 := Lib.hid (M.bit_zero a e k m h0)
        clear hn ho h0
        go_wp2_with fail
        refine (product_two _ _ _ _ _ h1 h2 q0 q1 q0 q1 (by go_simp) (by go_simp)).mono ?_
        rintro r w' ⟨rfl, rfl⟩
        go_wp2_with fail
        go_roundw
        case rel => exact ⟨k + 1, by omega, by go_num, by rw [H1.out], by rw [Hs.out], hb.alloc hz _⟩
        case measure => simp [intOf]; omega
    · obtain rfl : k = 30 := by omega
      go_wp2_with fail
      go_ret
      exact ⟨rfl, hb⟩

theorem power_int (m a e : Int) (w : World) (h1 : 1 ≤ m) (h2 : m ≤ 1000000) (ha0 : 0 ≤ a) (ha1 : a < m) (he0 : 0 ≤ e) (he1 : e ≤ 1000000000) :
    Calls Tryz.prog 170 #[.int .i64 m, .int .i64 a, .int .i64 e] w fun r w' => r = .returned (.int .i64 (M.pw a e.toNat m)) ∧ Below w.heap.size w w' := by
  obtain ⟨n, rfl⟩ := Int.eq_ofNat_of_zero_le he0
  have h : n % 2 ^ 30 = n := Nat.mod_eq_of_lt (by omega)
  have c := power_any m a n w h1 h2 ha0 ha1
  rw [h] at c
  exact c

end Go.Proofs.YtlodhleihnlchaaGreatDoor
namespace Go.Proofs.YtlodhleihnlchaaGreatDoor
open Go.RowKit

theorem ret_int {k : IntKind} {a b : Int} (h : a = b) : Ending.returned (.int k a) = .returned (.int k b) := by rw [h]
theorem ret_bool {a b : Bool} (h : a = b) : Ending.returned (.bool a) = .returned (.bool b) := by rw [h]

theorem l2Sum_any (a : Option Addr) (len cap B : Nat) (zs : List Int) (w : World) (hR : Row .u8 w B a len cap zs) :
    Calls Tryz.prog 263 #[.slice a len cap] w fun e w' => e = .returned (.int .i64 (M.sumL zs)) ∧ w = w' := by
  have hlen := hR.fits
  have hmost := hR.most
  unfold maxLen at hmost
  have hL := Lib.hid hR.length
  rcases Nat.eq_zero_or_pos len with h0 | h0
  · subst h0
    obtain rfl : zs = [] := List.eq_nil_of_length_eq_zero hL.out
    go_enter Tryz.func263, Tryz.ntmps263
    go_wp2_with fail
    refine wp_loop_rounds 1 ?_
    rw [rounds_succ]; go_wp2_with fail
    go_ret
    exact ⟨rfl, rfl⟩
  · obtain ⟨b, off, rfl, hb, hc⟩ := hR.cells h0
    have Hc := Lib.hid hc
    have HB := Lib.hid hR.byte
    clear hc hR
    go_enter Tryz.func263, Tryz.ntmps263
    go_wp2_with fail
    go_loop [3, 4] (fun n i => ∃ k : Nat, k ≤ len ∧ i = .int .i64 k ∧ n = .int .i64 (M.sumL (zs.take k))) (fun _ i => len - (intOf i).toNat)
    case atStart => exact ⟨0, Nat.zero_le _, rfl, rfl⟩
    case round =>
      obtain ⟨k, hk, rfl, rfl⟩ := hrel
      obtain ⟨s0, s1⟩ := M.sumL_bd (zs.take k)
      by_cases hlt : k < len
      · have hcell := Hc.out k hlt
        obtain ⟨z0, z1⟩ := HB.out k
        simp only [List.getD_eq_getElem?_getD] at hcell z0 z1
        have H := Lib.hid (M.sumL_take zs k (by rw [hL.out]; exact hlt))
        go_wp2_with fail
        go_round
        case rel => exact ⟨k + 1, by omega, by go_num, by rw [H.out]⟩
        case measure => simp [intOf]; omega
      · go_wp2_with fail
        go_ret
        exact ⟨ret_int (by rw [List.take_of_length_le (by rw [hL.out]; omega)]), rfl⟩

theorem sumBytes_any (a : Option Addr) (len cap B : Nat) (zs : List Int) (w : World) (hR : Row .u8 w B a len cap zs) :
    Calls Tryz.prog 202 #[.slice a len cap] w fun e w' => e = .returned (.int .u32 (M.sumL zs)) ∧ w = w' := by
  have hlen := hR.fits
  have hmost := hR.most
  unfold maxLen at hmost
  have hL := Lib.hid hR.length
  rcases Nat.eq_zero_or_pos len with h0 | h0
  · subst h0
    obtain rfl : zs = [] := List.eq_nil_of_length_eq_zero hL.out
    go_enter Tryz.func202, Tryz.ntmps202
    go_wp2_with fail
    refine wp_loop_rounds 1 ?_
    rw [rounds_succ]; go_wp2_with fail
    go_ret
    exact ⟨rfl, rfl⟩
  · obtain ⟨b, off, rfl, hb, hc⟩ := hR.cells h0
    have Hc := Lib.hid hc
    have HB := Lib.hid hR.byte
    clear hc hR
    go_enter Tryz.func202, Tryz.ntmps202
    go_wp2_with fail
    go_loop [3, 8] (fun n i => ∃ k : Nat, k ≤ len ∧ i = .int .i64 k ∧ n = .int .u32 (M.sumL (zs.take k))) (fun _ i => len - (intOf i).toNat)
    case atStart => exact ⟨0, Nat.zero_le _, rfl, rfl⟩
    case round =>
      obtain ⟨k, hk, rfl, rfl⟩ := hrel
      obtain ⟨s0, s1⟩ := M.sumL_bd (zs.take k)
      by_cases hlt : k < len
      · have hcell := Hc.out k hlt
        obtain ⟨z0, z1⟩ := HB.out k
        simp only [List.getD_eq_getElem?_getD] at hcell z0 z1
        have H := Lib.hid (M.sumL_take zs k (by rw [hL.out]; exact hlt))
        go_wp2_with fail
        go_round
        case rel => exact ⟨k + 1, by omega, by go_num, by rw [H.out]⟩
        case measure => simp [intOf]; omega
      · go_wp2_with fail
        go_ret
        exact ⟨ret_int (by rw [List.take_of_length_le (by rw [hL.out]; omega)]), rfl⟩

theorem isLabel_any (s : ByteArray) (w : World) (hs : s.size ≤ maxLen) :
    Calls Tryz.prog 203 #[.string s] w fun e w' => e = .returned (.bool (M.labB s)) ∧ w = w' := by
  unfold maxLen at hs
  by_cases h1 : s.size < 1
  · have h1' : (s.size : Int) < 1 := by omega
    have HS := Lib.hid (M.labB_short s h1)
    go_enter Tryz.func203, Tryz.ntmps203
    go_wp2_with fail
    go_ret
    exact ⟨ret_bool HS.out.symm, rfl⟩
  by_cases h2 : 12 < s.size
  · have h2' : (12 : Int) < s.size := by omega
    have HS := Lib.hid (M.labB_long s h2)
    go_enter Tryz.func203, Tryz.ntmps203
    go_wp2_with fail
    go_ret
    exact ⟨ret_bool HS.out.symm, rfl⟩
  have h1' : 1 ≤ (s.size : Int) := by omega
  have h2' : (s.size : Int) ≤ 12 := by omega
  go_enter Tryz.func203, Tryz.ntmps203
  go_wp2_with fail
  go_loop [14] (fun i => ∃ k : Nat, k ≤ s.size ∧ i = .int .i64 k ∧ Hid (M.lowTo s k = true)) (fun i => s.size - (intOf i).toNat)
  case atStart => exact ⟨0, Nat.zero_le _, rfl, Lib.hid (M.lowTo_zero s)⟩
  case round =>
    obtain ⟨k, hk, rfl, hlow⟩ := hrel
    by_cases hlt : k < s.size
    · have HN := Lib.hid (M.lowTo_next s k hlt hlow.out)
      have HS := Lib.hid (M.labB_stop s k hlt)
      go_wp2_with fail
      · have hb : (s[k].toNat : Int) < 97 ∨ 122 < (s[k].toNat : Int) := by assumption
        go_ret
        exact ⟨ret_bool (HS.out hb).symm, rfl⟩
      · have hb : 97 ≤ (s[k].toNat : Int) ∧ (s[k].toNat : Int) ≤ 122 := by assumption
        go_round
        case rel => exact ⟨k + 1, by omega, by go_num, Lib.hid (HN.out hb.1 hb.2)⟩
        case measure => simp [intOf]; omega
      · have hb : (s[k].toNat : Int) < 97 := by assumption
        go_ret
        exact ⟨ret_bool (HS.out (.inl hb)).symm, rfl⟩
    · obtain rfl : k = s.size := by omega
      go_wp2_with fail
      go_ret
      exact ⟨ret_bool (M.labB_all s hlow.out (by omega) (by omega)).symm, rfl⟩

theorem l2Is_any (v : Int) (w : World) :
    Calls Tryz.prog 166 #[.int .i64 v] w fun e w' => e = .returned (.bool (M.sumB v)) ∧ w = w' := by
  go_enter Tryz.func166, Tryz.ntmps166
  go_wp2_with fail
  refine (l1In_any _ _ _ _).mono ?_
  rintro r w' ⟨rfl, rfl⟩
  go_wp2_with fail
  go_ret
  exact ⟨rfl, rfl⟩

theorem isSum_any (v : Int) (w : World) :
    Calls Tryz.prog 104 #[.int .i64 v] w fun e w' => e = .returned (.bool (M.sumB v)) ∧ w = w' := by
  by_cases h1 : 0 ≤ v
  · by_cases h2 : v ≤ 65520
    · have e : M.sumB v = true := by simp [M.sumB, h1, h2]
      rw [e]; clear e
      go_enter Tryz.func104, Tryz.ntmps104
      go_wp2_with fail
      go_ret
      simp
    · have e : M.sumB v = false := by simp [M.sumB, h2]
      rw [e]; clear e
      go_enter Tryz.func104, Tryz.ntmps104
      go_wp2_with fail
      go_ret
      simp
  · have e : M.sumB v = false := by simp [M.sumB, h1]
    rw [e]; clear e
    go_enter Tryz.func104, Tryz.ntmps104
    go_wp2_with fail
    go_ret
    simp

end Go.Proofs.YtlodhleihnlchaaGreatDoor
namespace Go.Proofs.YtlodhleihnlchaaGreatDoor.M

def plainB (b : UInt8) : Bool := decide (97 ≤ (b.toNat : Int) ∧ (b.toNat : Int) ≤ 122) || decide (65 ≤ (b.toNat : Int) ∧ (b.toNat : Int) ≤ 90) || decide (48 ≤ (b.toNat : Int) ∧ (b.toNat : Int) ≤ 57)
def dashB (b : UInt8) : Bool := decide ((b.toNat : Int) = 45)
def dotB (b : UInt8) : Bool := decide ((b.toNat : Int) = 46)
def cls (b : UInt8) : Int := if plainB b then 1 else if dashB b then 2 else if dotB b then 3 else 0
def chr (l : List UInt8) (k : Nat) : Int := match l[k]? with
  | none => 4
  | some b => cls b
theorem plain_dash {b : UInt8} (h : plainB b = true) : dashB b = false := by
  simp only [plainB, dashB, Bool.or_eq_true, decide_eq_true_eq, decide_eq_false_iff_not] at *
  omega
theorem plain_dot {b : UInt8} (h : plainB b = true) : dotB b = false := by
  simp only [plainB, dotB, Bool.or_eq_true, decide_eq_true_eq, decide_eq_false_iff_not] at *
  omega
theorem dash_dot {b : UInt8} (h : dashB b = true) : dotB b = false := by
  simp only [dashB, dotB, decide_eq_true_eq, decide_eq_false_iff_not] at *
  omega

mutual
def mDot : List UInt8 → Bool
  | [] => false
  | b :: r => if plainB b then mPlain r else false
def mPlain : List UInt8 → Bool
  | [] => true
  | b :: r => if plainB b then mPlain r else if dashB b then mDash r else if dotB b then (if r = [] then true else mDot r) else false
def mDash : List UInt8 → Bool
  | [] => false
  | b :: r => if plainB b then mPlain r else if dashB b then mDash r else false
end

def signB (b : UInt8) : Bool := plainB b || dashB b
def partB (w : List UInt8) : Bool := w.all signB && decide (1 ≤ w.length) && !(w.head?.any dashB) && !(w.getLast?.any dashB)
def cutL (cur : List UInt8) : List UInt8 → List (List UInt8)
  | [] => [cur]
  | b :: r => if dotB b then cur :: cutL [] r else cutL (cur ++ [b]) r
def strip : List UInt8 → List UInt8
  | [] => []
  | b :: r => if dotB b = true ∧ r = [] then [] else b :: strip r
def bare : List UInt8 → List UInt8
  | [] => []
  | b :: r => b :: strip r
def badB (w : List UInt8) : Bool := w.head?.any dashB || !(w.all signB)
theorem badB_part {w : List UInt8} (h : badB w = true) : partB w = false := by
  unfold badB at h
  unfold partB
  simp only [Bool.or_eq_true, Bool.not_eq_true'] at h
  rcases h with h | h <;> simp [h]
theorem badB_more {w : List UInt8} (h : badB w = true) (b : UInt8) : badB (w ++ [b]) = true := by
  unfold badB at *
  cases w with
  | nil => simp at h
  | cons x r =>
    simp only [List.cons_append, List.head?_cons, Option.any_some, Bool.or_eq_true, Bool.not_eq_true'] at *
    rcases h with h | h
    · exact .inl h
    · right
      rw [← List.cons_append, List.all_append, h]
      rfl
theorem cut_bad : ∀ (r cur : List UInt8), badB cur = true → (cutL cur r).all partB = false
  | [], cur, h => by simp [cutL, badB_part h]
  | b :: r, cur, h => by
    unfold cutL
    split
    · simp [badB_part h]
    · exact cut_bad r _ (badB_more h b)
def soFar (w : List UInt8) (d : Bool) : Prop := w ≠ [] ∧ w.all signB = true ∧ w.head?.any dashB = false ∧ w.getLast?.any dashB = d
theorem soFar.part {w : List UInt8} {d : Bool} (h : soFar w d) : partB w = !d := by
  obtain ⟨h1, h2, h3, h4⟩ := h
  unfold partB
  rw [h2, h3, h4]
  have : 1 ≤ w.length := by cases w with
    | nil => exact absurd rfl h1
    | cons => simp
  simp [this]
theorem soFar.more {w : List UInt8} {d : Bool} (h : soFar w d) {b : UInt8} (hb : signB b = true) : soFar (w ++ [b]) (dashB b) := by
  obtain ⟨h1, h2, h3, h4⟩ := h
  refine ⟨by simp, by simp only [List.all_append, h2, List.all_cons, hb, List.all_nil]; rfl, ?_, by simp⟩
  cases w with
  | nil => exact absurd rfl h1
  | cons x r => simpa using h3
theorem soFar.first {b : UInt8} (h : plainB b = true) : soFar [b] false := ⟨by simp, by simp [signB, h], by simp [plain_dash h], by simp [plain_dash h]⟩
theorem strip_cons {b : UInt8} {r : List UInt8} (h : dotB b = false ∨ r ≠ []) : strip (b :: r) = b :: strip r := by
  rw [strip, if_neg]
  rintro ⟨h1, h2⟩
  rcases h with h | h
  · rw [h] at h1; cases h1
  · exact h h2
theorem machine : ∀ (n : Nat) (r : List UInt8), r.length ≤ n →
    (∀ cur, soFar cur false → mPlain r = (cutL cur (strip r)).all partB) ∧ (∀ cur, soFar cur true → mDash r = (cutL cur (strip r)).all partB) ∧ (mDot r = (cutL [] (bare r)).all partB) ∧ (r ≠ [] → mDot r = (cutL [] (strip r)).all partB)
  | n, [], _ => by
    refine ⟨fun cur h => ?_, fun cur h => ?_, ?_, fun h => absurd rfl h⟩
    · simp [mPlain, strip, cutL, h.part]
    · simp [mDash, strip, cutL, h.part]
    · simp [mDot, bare, cutL, partB]
  | 0, b :: r, h => by simp at h
  | n + 1, b :: r, hl => by
    have hr : r.length ≤ n := by simpa using hl
    obtain ⟨hP, hD, hB, hS⟩ := machine n r hr
    have start : mDot (b :: r) = (cutL [] (b :: strip r)).all partB := by
      rw [mDot, cutL]
      split
      · rename_i hb
        rw [plain_dot hb]
        simpa using hP [b] (soFar.first hb)
      · rename_i hb
        split
        · simp [partB]
        · rename_i hd
          have : badB [b] = true := by
            unfold badB signB
            cases h2 : dashB b <;> simp [hb, h2]
          exact (cut_bad _ _ this).symm
    refine ⟨fun cur h => ?_, fun cur h => ?_, start, fun _ => ?_⟩
    · rw [mPlain]
      split
      · rename_i hb
        rw [strip_cons (.inl (plain_dot hb)), cutL, plain_dot hb]
        have := h.more (b := b) (by simp [signB, hb])
        rw [plain_dash hb] at this
        simpa using hP _ this
      split
      · rename_i hb
        rw [strip_cons (.inl (dash_dot hb)), cutL, dash_dot hb]
        have := h.more (b := b) (by simp [signB, hb])
        rw [hb] at this
        simpa using hD _ this
      split
      · rename_i hb
        split
        · rename_i hn
          rw [strip, if_pos ⟨hb, hn⟩]
          simp [cutL, h.part]
        · rename_i hn
          rw [strip_cons (.inr hn), cutL, hb]
          simp [h.part, hS hn]
      · rename_i h1 h2 h3
        simp only [Bool.not_eq_true] at h1 h2 h3
        rw [strip_cons (.inl h3), cutL, h3]
        have : badB (cur ++ [b]) = true := by
          unfold badB
          simp [signB, h1, h2]
        simpa using (cut_bad _ _ this).symm
    · rw [mDash]
      split
      · rename_i hb
        rw [strip_cons (.inl (plain_dot hb)), cutL, plain_dot hb]
        have := h.more (b := b) (by simp [signB, hb])
        rw [plain_dash hb] at this
        simpa using hP _ this
      split
      · rename_i hb
        rw [strip_cons (.inl (dash_dot hb)), cutL, dash_dot hb]
        have := h.more (b := b) (by simp [signB, hb])
        rw [hb] at this
        simpa using hD _ this
      · rename_i h1 h2
        simp only [Bool.not_eq_true] at h1 h2
        cases h3 : dotB b
        · rw [strip_cons (.inl h3), cutL, h3]
          have : badB (cur ++ [b]) = true := by
            unfold badB
            simp [signB, h1, h2]
          simpa using (cut_bad _ _ this).symm
        · by_cases hn : r = []
          · rw [strip, if_pos ⟨h3, hn⟩]
            simp [cutL, h.part]
          · rw [strip_cons (.inr hn), cutL, h3]
            simp [h.part]
    · cases h3 : dotB b
      · rw [strip_cons (.inl h3), start]
      · by_cases hn : r = []
        · subst hn
          rw [strip, if_pos ⟨h3, rfl⟩, start]
          simp [strip, cutL, h3, partB]
        · rw [strip_cons (.inr hn), start]
theorem hasP_eq (l : List UInt8) : mDot l = (cutL [] (bare l)).all partB := (machine _ l (Nat.le_refl _)).2.2.1

theorem cls_eq (b : UInt8) : cls b = if (97 ≤ (b.toNat : Int) ∧ (b.toNat : Int) ≤ 122) ∨ (65 ≤ (b.toNat : Int) ∧ (b.toNat : Int) ≤ 90) ∨ (48 ≤ (b.toNat : Int) ∧ (b.toNat : Int) ≤ 57) then 1 else if (b.toNat : Int) = 45 then 2 else if (b.toNat : Int) = 46 then 3 else 0 := by
  unfold cls plainB dashB dotB
  simp only [Bool.or_eq_true, decide_eq_true_eq, or_assoc]
theorem chr_at (s : ByteArray) (k : Nat) (h : k < s.size) : chr s.data.toList k = cls s[k] := by
  have e : s.data.toList[k]? = some s[k] := by
    rw [Array.getElem?_toList]
    exact Array.getElem?_eq_getElem h
  unfold chr
  rw [e]
theorem chr_end (s : ByteArray) (k : Nat) (h : s.size ≤ k) : chr s.data.toList k = 4 := by
  have e : s.data.toList[k]? = none := by
    rw [Array.getElem?_toList]
    exact Array.getElem?_eq_none h
  unfold chr
  rw [e]
theorem cls_plain {b : UInt8} (h : plainB b = true) : cls b = 1 := by simp [cls, h]
theorem cls_dash {b : UInt8} (h : dashB b = true) : cls b = 2 := by
  have : plainB b = false := by
    cases h2 : plainB b
    · rfl
    · rw [plain_dash h2] at h; cases h
  simp [cls, h, this]
theorem cls_dot {b : UInt8} (h : dotB b = true) : cls b = 3 := by
  have h1 : plainB b = false := by
    cases h2 : plainB b
    · rfl
    · rw [plain_dot h2] at h; cases h
  have h2 : dashB b = false := by
    cases h2 : dashB b
    · rfl
    · rw [dash_dot h2] at h; cases h
  simp [cls, h, h1, h2]
theorem cls_other {b : UInt8} (h1 : plainB b = false) (h2 : dashB b = false) (h3 : dotB b = false) : cls b = 0 := by simp [cls, h1, h2, h3]
inductive Step (l : List UInt8) (k : Nat) : Prop
  | plain : chr l k = 1 → k < l.length → mDot (l.drop k) = mPlain (l.drop (k + 1)) → mPlain (l.drop k) = mPlain (l.drop (k + 1)) → mDash (l.drop k) = mPlain (l.drop (k + 1)) → Step l k
  | dash : chr l k = 2 → k < l.length → mDot (l.drop k) = false → mPlain (l.drop k) = mDash (l.drop (k + 1)) → mDash (l.drop k) = mDash (l.drop (k + 1)) → Step l k
  | dotMore : chr l k = 3 → k + 1 < l.length → mDot (l.drop k) = false → mPlain (l.drop k) = mDot (l.drop (k + 1)) → mDash (l.drop k) = false → Step l k
  | dotLast : chr l k = 3 → k + 1 = l.length → mDot (l.drop k) = false → mPlain (l.drop k) = true → mDash (l.drop k) = false → Step l k
  | other : chr l k = 0 → k < l.length → mDot (l.drop k) = false → mPlain (l.drop k) = false → mDash (l.drop k) = false → Step l k
  | ends : chr l k = 4 → l.length ≤ k → mDot (l.drop k) = false → mPlain (l.drop k) = true → mDash (l.drop k) = false → Step l k
theorem step (l : List UInt8) (k : Nat) : Step l k := by
  rcases Nat.lt_or_ge k l.length with h | h
  · have e : l.drop k = l[k] :: l.drop (k + 1) := List.drop_eq_getElem_cons h
    have ec : chr l k = cls l[k] := by simp [chr, h]
    generalize l[k] = b at e ec
    cases h1 : plainB b
    · cases h2 : dashB b
      · cases h3 : dotB b
        · exact .other (ec.trans (cls_other h1 h2 h3)) h (by rw [e]; simp [mDot, h1]) (by rw [e]; simp [mPlain, h1, h2, h3]) (by rw [e]; simp [mDash, h1, h2])
        · rcases Nat.lt_or_ge (k + 1) l.length with hk | hk
          · refine .dotMore (ec.trans (cls_dot h3)) hk (by rw [e]; simp [mDot, h1]) ?_ (by rw [e]; simp [mDash, h1, h2])
            rw [e, mPlain, if_neg (by simp [h1]), if_neg (by simp [h2]), if_pos h3, if_neg]
            intro hn
            have := congrArg List.length hn
            simp at this
            omega
          · refine .dotLast (ec.trans (cls_dot h3)) (by omega) (by rw [e]; simp [mDot, h1]) ?_ (by rw [e]; simp [mDash, h1, h2])
            rw [e, mPlain, if_neg (by simp [h1]), if_neg (by simp [h2]), if_pos h3, if_pos (List.drop_eq_nil_iff.2 hk)]
      · exact .dash (ec.trans (cls_dash h2)) h (by rw [e]; simp [mDot, h1]) (by rw [e]; simp [mPlain, h1, h2]) (by rw [e]; simp [mDash, h1, h2])
    · exact .plain (ec.trans (cls_plain h1)) h (by rw [e]; simp [mDot, h1]) (by rw [e]; simp [mPlain, h1]) (by rw [e]; simp [mDash, h1])
  · have e : l.drop k = [] := List.drop_eq_nil_iff.2 h
    exact .ends (by simp [chr, h]) h (by rw [e]; simp [mDot]) (by rw [e]; simp [mPlain]) (by rw [e]; simp [mDash])

theorem signB_eq (b : UInt8) : signB b = decide ((97 ≤ (b.toNat : Int) ∧ (b.toNat : Int) ≤ 122) ∨ (65 ≤ (b.toNat : Int) ∧ (b.toNat : Int) ≤ 90) ∨ (48 ≤ (b.toNat : Int) ∧ (b.toNat : Int) ≤ 57) ∨ (b.toNat : Int) = 45) := by
  unfold signB plainB dashB
  simp only [Bool.decide_or, Bool.or_assoc]
def signTo (s : ByteArray) (k : Nat) : Bool := (s.data.toList.take k).all signB
theorem signTo_zero (s : ByteArray) : signTo s 0 = true := by simp [signTo]
theorem signTo_next (s : ByteArray) (k : Nat) (h : k < s.size) (hl : signTo s k = true) (hb : signB s[k] = true) : signTo s (k + 1) = true := by
  unfold signTo at *
  rw [data_take s k h, List.all_append, hl]
  simp [hb]
theorem signTo_all (s : ByteArray) (h : signTo s s.size = true) : s.data.toList.all signB = true := by
  unfold signTo at h
  rwa [List.take_of_length_le (by simp)] at h
theorem partB_stop (s : ByteArray) (k : Nat) (h : k < s.size) (hb : signB s[k] = false) : partB s.data.toList = false := by
  have : s.data.toList.all signB = false := by
    rw [List.all_eq_false]
    exact ⟨s[k], by rw [Array.mem_toList_iff]; exact Array.getElem_mem h, by simp [hb]⟩
  simp [partB, this]
theorem partB_short (s : ByteArray) (h : s.size < 1) : partB s.data.toList = false := by
  have e : s.data.toList = [] := List.eq_nil_of_length_eq_zero (by rw [Array.length_toList]; show s.size = 0; omega)
  rw [e]; rfl
theorem head_at (s : ByteArray) (h : 0 < s.size) : s.data.toList.head? = some s[0] := by
  rw [List.head?_eq_getElem?, Array.getElem?_toList]
  exact Array.getElem?_eq_getElem h
theorem last_at (s : ByteArray) (n : Nat) (h : s.size = n + 1) : s.data.toList.getLast? = some (s[n]'(by omega)) := by
  have hl : s.data.toList.length = n + 1 := by simpa using h
  rw [List.getLast?_eq_getElem?, hl, Array.getElem?_toList]
  exact Array.getElem?_eq_getElem (show n < s.data.size from by have : s.data.size = s.size := rfl; omega)
theorem partB_ends (s : ByteArray) (n : Nat) (h : s.size = n + 1) (ha : signTo s s.size = true) : partB s.data.toList = (!(dashB (s[0]'(by omega))) && !(dashB (s[n]'(by omega)))) := by
  unfold partB
  rw [signTo_all s ha, head_at s (by omega), last_at s n h, decide_eq_true (show 1 ≤ s.data.toList.length by rw [Array.length_toList]; show 1 ≤ s.size; omega)]
  simp
def bs (l : List UInt8) : ByteArray := ⟨l.toArray⟩
theorem bs_list (l : List UInt8) : (bs l).data.toList = l := by simp [bs]
theorem bs_size (l : List UInt8) : (bs l).size = l.length := by simp [bs, ByteArray.size]
theorem bs_data (s : ByteArray) : bs s.data.toList = s := by simp [bs]
theorem bs_extract (s : ByteArray) (a b : Nat) : s.extract a b = bs ((s.data.toList.drop a).take (b - a)) := Lib.extract_eq s a b
theorem strip_last : ∀ (r : List UInt8), strip r = if r.getLast?.any dotB then r.take (r.length - 1) else r
  | [] => by simp [strip]
  | [b] => by
    rw [strip]
    by_cases h : dotB b = true <;> simp [h, strip]
  | b :: c :: r => by
    rw [strip_cons (.inr (by simp)), strip_last (c :: r)]
    simp only [List.getLast?_cons_cons]
    split
    · simp
    · rfl
theorem bare_last (l : List UInt8) : bare l = if 1 < l.length ∧ l.getLast?.any dotB = true then l.take (l.length - 1) else l := by
  cases l with
  | nil => simp [bare]
  | cons b r =>
    cases r with
    | nil => simp [bare, strip]
    | cons c r =>
      rw [bare, strip_last]
      simp only [List.getLast?_cons_cons]
      by_cases h : (c :: r).getLast?.any dotB = true
      · rw [if_pos h, if_pos ⟨by simp, h⟩]
        simp
      · rw [if_neg h, if_neg (fun e => h e.2)]
theorem bare_one (s : ByteArray) (h : s.size ≤ 1) : bs (bare s.data.toList) = s := by
  have : s.data.toList.length = s.size := by simp
  rw [bare_last, if_neg (by omega), bs_data]
theorem bare_dot (s : ByteArray) (n : Nat) (h : s.size = n + 2) (hd : dotB (s[n + 1]'(by omega)) = true) : bs (bare s.data.toList) = s.extract 0 (n + 1) := by
  have hl : s.data.toList.length = s.size := by simp
  rw [bare_last, if_pos ⟨by omega, by rw [last_at s (n + 1) h]; simpa using hd⟩, bs_extract]
  simp [h]
theorem bare_not (s : ByteArray) (n : Nat) (h : s.size = n + 2) (hd : dotB (s[n + 1]'(by omega)) = false) : bs (bare s.data.toList) = s := by
  rw [bare_last, if_neg (by rw [last_at s (n + 1) h]; simp [hd]), bs_data]
def CutAt (l : List UInt8) (done : List (List UInt8)) (f k : Nat) : Prop := f ≤ k ∧ k ≤ l.length ∧ cutL [] l = done ++ cutL ((l.drop f).take (k - f)) (l.drop k)
theorem CutAt.zero (l : List UInt8) : CutAt l [] 0 0 := ⟨by omega, by omega, by simp⟩
theorem CutAt.next {l : List UInt8} {done : List (List UInt8)} {f k : Nat} {b : UInt8} (h : CutAt l done f k) (hb : l[k]? = some b) (hd : dotB b = false) : CutAt l done f (k + 1) := by
  obtain ⟨h1, h2, h3⟩ := h
  have hk : k < l.length := (List.getElem?_eq_some_iff.1 hb).1
  have e : l.drop k = b :: l.drop (k + 1) := by rw [List.drop_eq_getElem_cons hk]; congr 1; rw [List.getElem?_eq_getElem hk] at hb; exact Option.some.inj hb
  refine ⟨by omega, by omega, ?_⟩
  rw [h3, e, cutL, if_neg (by simp [hd])]
  congr 2
  rw [show k + 1 - f = (k - f) + 1 by omega, List.take_add_one, List.getElem?_drop, show f + (k - f) = k by omega, hb]
  rfl
theorem CutAt.cut {l : List UInt8} {done : List (List UInt8)} {f k : Nat} {b : UInt8} (h : CutAt l done f k) (hb : l[k]? = some b) (hd : dotB b = true) : CutAt l (done ++ [(l.drop f).take (k - f)]) (k + 1) (k + 1) := by
  obtain ⟨h1, h2, h3⟩ := h
  have hk : k < l.length := (List.getElem?_eq_some_iff.1 hb).1
  have e : l.drop k = b :: l.drop (k + 1) := by rw [List.drop_eq_getElem_cons hk]; congr 1; rw [List.getElem?_eq_getElem hk] at hb; exact Option.some.inj hb
  refine ⟨by omega, by omega, ?_⟩
  rw [h3, e, cutL, if_pos hd]
  simp
theorem CutAt.last {l : List UInt8} {done : List (List UInt8)} {f : Nat} (h : CutAt l done f l.length) : cutL [] l = done ++ [(l.drop f).take (l.length - f)] := by
  obtain ⟨h1, h2, h3⟩ := h
  rw [h3]
  simp [cutL]
theorem cutL_length : ∀ (r cur : List UInt8), (cutL cur r).length ≤ r.length + 1
  | [], cur => by simp [cutL]
  | b :: r, cur => by
    rw [cutL]
    split
    · have := cutL_length r []; simp; omega
    · have := cutL_length r (cur ++ [b]); simp; omega
theorem cutL_part : ∀ (r cur : List UInt8), ∀ p ∈ cutL cur r, p.length ≤ cur.length + r.length
  | [], cur, p, h => by simp [cutL] at h; simp [h]
  | b :: r, cur, p, h => by
    rw [cutL] at h
    split at h
    · rcases List.mem_cons.1 h with rfl | h
      · omega
      · have := cutL_part r [] p h; simp at this ⊢; omega
    · have := cutL_part r (cur ++ [b]) p h; simp at this ⊢; omega
theorem CutAt.done_le {l : List UInt8} {done : List (List UInt8)} {f k : Nat} (h : CutAt l done f k) : done.length ≤ l.length + 1 := by
  have := cutL_length l []
  rw [h.2.2] at this
  simp at this
  omega

def nameF (l : List UInt8) : Int := if 20 < l.length then 2 else if mDot l then 0 else 5
theorem nameF_long {l : List UInt8} (h : 20 < l.length) : nameF l = 2 := by simp [nameF, h]
theorem nameF_no {l : List UInt8} (h : ¬ 20 < l.length) (hm : mDot l = false) : nameF l = 5 := by simp [nameF, h, hm]
theorem nameF_yes {l : List UInt8} (h : ¬ 20 < l.length) (hm : mDot l = true) : nameF l = 0 := by simp [nameF, h, hm]
theorem nameF_zero {l : List UInt8} (h : nameF l = 0) : l.length ≤ 20 ∧ mDot l = true := by
  unfold nameF at h
  split at h
  · omega
  split at h
  · rename_i h2; exact ⟨by omega, h2⟩
  · omega
theorem ascii : ∀ (n : Nat) (r : List UInt8), r.length ≤ n → (mPlain r = true ∨ mDash r = true ∨ mDot r = true) → ∀ b ∈ r, b.toNat < 128
  | _, [], _, _ => by simp
  | 0, _ :: _, h, _ => by simp at h
  | n + 1, b :: r, hl, h => by
    have hr : r.length ≤ n := by simpa using hl
    have hp : ∀ {b : UInt8}, plainB b = true → b.toNat < 128 := by
      intro b hb
      simp only [plainB, Bool.or_eq_true, decide_eq_true_eq] at hb
      omega
    have hd : ∀ {b : UInt8}, dashB b = true → b.toNat < 128 := by
      intro b hb
      simp only [dashB, decide_eq_true_eq] at hb
      omega
    have ht : ∀ {b : UInt8}, dotB b = true → b.toNat < 128 := by
      intro b hb
      simp only [dotB, decide_eq_true_eq] at hb
      omega
    have key : b.toNat < 128 ∧ (r = [] ∨ mPlain r = true ∨ mDash r = true ∨ mDot r = true) := by
      rcases h with h | h | h
      · rw [mPlain] at h
        split at h
        · rename_i hb; exact ⟨hp hb, .inr (.inl h)⟩
        split at h
        · rename_i hb; exact ⟨hd hb, .inr (.inr (.inl h))⟩
        split at h
        · rename_i hb
          split at h
          · rename_i hn; exact ⟨ht hb, .inl hn⟩
          · exact ⟨ht hb, .inr (.inr (.inr h))⟩
        · cases h
      · rw [mDash] at h
        split at h
        · rename_i hb; exact ⟨hp hb, .inr (.inl h)⟩
        split at h
        · rename_i hb; exact ⟨hd hb, .inr (.inr (.inl h))⟩
        · cases h
      · rw [mDot] at h
        split at h
        · rename_i hb; exact ⟨hp hb, .inr (.inl h)⟩
        · cases h
    intro c hc
    rcases List.mem_cons.1 hc with rfl | hc
    · exact key.1
    · rcases key.2 with rfl | h2
      · simp at hc
      · exact ascii n r hr h2 c hc
theorem strip_trim : ∀ (r : List UInt8), r ≠ [] → Lib.trimSuffix r [46] = strip r
  | [], h => absurd rfl h
  | b :: r, _ => by
    by_cases hn : r = []
    · subst hn
      have e : dotB b = (b == 46) := by
        by_cases hb : b = 46
        · subst hb; decide
        · have : ¬ (b.toNat : Int) = 46 := fun h => hb (UInt8.toNat_inj.1 (by simpa using (show b.toNat = 46 by omega)))
          simp [dotB, this, hb]
      by_cases hb : b = 46
      · subst hb; decide
      · have h1 : dotB b = false := by rw [e]; simpa using hb
        simp [strip, h1, Lib.trimSuffix, Lib.hasSuffix, List.isSuffixOf]
        intro h; exact absurd h.symm hb
    · rw [strip_cons (.inr hn), ← strip_trim r hn]
      unfold Lib.trimSuffix Lib.hasSuffix
      have hl : 1 ≤ r.length := by cases r with
        | nil => exact absurd rfl hn
        | cons => simp
      have e : ([46] : List UInt8).isSuffixOf (b :: r) = ([46] : List UInt8).isSuffixOf r := by
        rw [Bool.eq_iff_iff, List.isSuffixOf_iff_suffix, List.isSuffixOf_iff_suffix]
        constructor
        · rintro ⟨t, ht⟩
          cases t with
          | nil => simp at ht; exact absurd ht.2.symm (by simpa using hn)
          | cons x t => simp at ht; exact ⟨t, ht.2⟩
        · rintro ⟨t, ht⟩
          exact ⟨b :: t, by simp [ht]⟩
      rw [e]
      split
      · simp only [List.length_cons, List.length_nil]
        rw [show r.length + 1 - (0 + 1) = (r.length - (0 + 1)) + 1 by omega, List.take_succ_cons]
      · rfl
theorem bare_trim {l : List UInt8} (h : mDot l = true) : Lib.trimSuffix l [46] = bare l := by
  cases l with
  | nil => simp [mDot] at h
  | cons b r =>
    have hb : plainB b = true := by
      rw [mDot] at h
      split at h
      · assumption
      · cases h
    rw [strip_trim _ (by simp), strip_cons (.inl (plain_dot hb))]
    rfl
theorem strip_mem : ∀ (r : List UInt8), ∀ b ∈ strip r, b ∈ r
  | [], b, h => by simp [strip] at h
  | c :: r, b, h => by
    rw [strip] at h
    split at h
    · simp at h
    · rcases List.mem_cons.1 h with rfl | h
      · simp
      · exact List.mem_cons_of_mem _ (strip_mem r b h)
theorem bare_mem (l : List UInt8) : ∀ b ∈ bare l, b ∈ l := by
  cases l with
  | nil => simp [bare]
  | cons c r =>
    intro b h
    rcases List.mem_cons.1 h with rfl | h
    · simp
    · exact List.mem_cons_of_mem _ (strip_mem r b h)
theorem bare_ascii {l : List UInt8} (h : mDot l = true) : ∀ (j : Nat) (b : UInt8), (bare l)[j]? = some b → b.toNat < 128 := fun _ b hb => ascii _ l (Nat.le_refl _) (.inr (.inr h)) b (bare_mem l b (List.mem_of_getElem? hb))
def nrm (l : List UInt8) : List UInt8 := Lib.toLowerA (bare l)
theorem strip_length : ∀ r : List UInt8, (strip r).length ≤ r.length
  | [] => by simp [strip]
  | b :: r => by
    rw [strip]
    split
    · simp
    · have := strip_length r; simpa using this
theorem bare_length (l : List UInt8) : (bare l).length ≤ l.length := by
  cases l with
  | nil => simp [bare]
  | cons b r => have := strip_length r; simpa [bare] using this
def normF (l : List UInt8) : Int := if nameF l = 0 then (if nrm l = l then 0 else 1) else nameF l
theorem normF_zero {l : List UInt8} (h : normF l = 0) : nameF l = 0 ∧ nrm l = l := by
  unfold normF at h
  split at h
  · rename_i h0
    split at h
    · rename_i h1; exact ⟨h0, h1⟩
    · omega
  · exact absurd h (by assumption)
end Go.Proofs.YtlodhleihnlchaaGreatDoor.M
namespace Go.Proofs.YtlodhleihnlchaaGreatDoor
open Go Go.RowKit

def jumps (J : Nat → Act → World → Prop) (Q : Exit → Act → World → Prop) : Exit → Act → World → Prop
  | .goto l, a, w => J l a w
  | e, a, w => Q e a w

theorem wp_scope_labels {P : Program} {a : Act} {w : World} {Q : Exit → Act → World → Prop} {c : Code} (J : Nat → Act → World → Prop) (m : Nat → Act → World → Nat)
    (first : c.wp P (jumps J Q) a w)
    (pass : ∀ l a w, J l a w → ∃ rest, findLabel c l = some rest ∧ rest.wp P (jumps (fun l' a' w' => J l' a' w' ∧ m l' a' w' < m l a w) Q) a w) : (Code.scope c).wp P Q a w := by
  intro b k cs
  have key : ∀ n l a w, m l a w = n → J l a w → ∃ rest, findLabel c l = some rest ∧ ∃ e a' w', Q e a' w' ∧ Arrives P (lone (b.at a (.code rest :: .inScope c :: k)) cs w) b k cs e a' w' := by
    intro n
    induction n using Nat.strongRecOn with
    | _ n ih =>
      intro l a w hn hJ
      obtain ⟨rest, hf, hp⟩ := pass l a w hJ
      refine ⟨rest, hf, ?_⟩
      obtain ⟨e, a₁, w₁, hq, harr⟩ := hp b (.inScope c :: k) cs
      cases e with
      | normal => exact ⟨.normal, a₁, w₁, hq, Steps.trans harr (.one step_inScope)⟩
      | exit id => exact ⟨.exit id, a₁, w₁, hq, fun k' hk => harr k' (by simp [exitTo, hk])⟩
      | goto l' =>
        obtain ⟨hJ', hlt⟩ := hq
        obtain ⟨rest', hf', e₂, a₂, w₂, hq₂, harr₂⟩ := ih _ (by omega) l' a₁ w₁ rfl hJ'
        have hg : gotoIn l' (.inScope c :: k) = some (.code rest' :: .inScope c :: k) := by simp [gotoIn, hf']
        exact ⟨e₂, a₂, w₂, hq₂, .of_steps (harr _ hg) harr₂⟩
      | ret => exact ⟨_, a₁, w₁, hq, harr⟩
      | panic ch => exact ⟨_, a₁, w₁, hq, harr⟩
      | outgrown => exact ⟨_, a₁, w₁, hq, harr⟩
  obtain ⟨e, a₁, w₁, hq, harr⟩ := first b (.inScope c :: k) cs
  cases e with
  | normal => exact ⟨.normal, a₁, w₁, hq, .head step_scope (Steps.trans harr (.one step_inScope))⟩
  | exit id => exact ⟨.exit id, a₁, w₁, hq, fun k' hk => .head step_scope (harr k' (by simp [exitTo, hk]))⟩
  | goto l' =>
    obtain ⟨rest', hf', e₂, a₂, w₂, hq₂, harr₂⟩ := key _ l' a₁ w₁ rfl hq
    have hg : gotoIn l' (.inScope c :: k) = some (.code rest' :: .inScope c :: k) := by simp [gotoIn, hf']
    exact ⟨e₂, a₂, w₂, hq₂, .of_steps (.head step_scope (harr _ hg)) harr₂⟩
  | ret => exact ⟨_, a₁, w₁, hq, .of_steps (.one step_scope) harr⟩
  | panic ch => exact ⟨_, a₁, w₁, hq, .of_steps (.one step_scope) harr⟩
  | outgrown => exact ⟨_, a₁, w₁, hq, .of_steps (.one step_scope) harr⟩
end Go.Proofs.YtlodhleihnlchaaGreatDoor
