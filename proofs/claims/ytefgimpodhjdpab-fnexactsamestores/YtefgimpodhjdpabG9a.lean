/- Slices of slices of bytes that a call made; what may turn. No condition beside what each theorem states. -/
import Derived.Test.YtefgimpodhjdpabC2f
import Derived.Test.YtefgimpodhjdpabG2
namespace Go.Proofs.Ytefgimpodhjdpab
open Go.RowKit
set_option maxRecDepth 100000
set_option linter.unusedVariables false

/-- Nothing that was there has turned but blocks from lo on, ahead of hi. -/
structure Inn (lo hi : Nat) (w w' : World) : Prop where
  os : w'.os = w.os
  tape : w'.tape = w.tape
  output : w'.output = w.output
  size : w.heap.size ≤ w'.heap.size
  block : ∀ k, k < w.heap.size → k < lo ∨ hi ≤ k → w'.heap[k]? = w.heap[k]?
section
variable {lo hi : Nat} {w w' w2 : World}
theorem Inn.refl (lo hi : Nat) (w : World) : Inn lo hi w w := ⟨rfl, rfl, rfl, Nat.le_refl _, fun _ _ _ => rfl⟩
theorem Inn.trans (h : Inn lo hi w w') (k : Inn lo hi w' w2) : Inn lo hi w w2 :=
  ⟨k.os.trans h.os, k.tape.trans h.tape, k.output.trans h.output, Nat.le_trans h.size k.size, fun i hl ho => (k.block i (Nat.lt_of_lt_of_le hl h.size) ho).trans (h.block i hl ho)⟩
theorem Inn.of_below (h : Below w.heap.size w w') : Inn lo hi w w' := ⟨h.os, h.tape, h.output, h.size, fun k hk _ => h.block k hk⟩
theorem Inn.of_grown {v : Value} (h : w.grownBy w' v.ownBlock) (hv : ∀ k, v.ownBlock = some k → lo ≤ k ∧ k < hi) : Inn lo hi w w' :=
  ⟨h.os, h.tape, h.output, h.size, fun k hk ho => h.block k hk fun e => by have := hv k e.symm; omega⟩
theorem Inn.wide {lo' hi' : Nat} (h : Inn lo hi w w') (h1 : lo' ≤ lo) (h2 : hi ≤ hi') : Inn lo' hi' w w' := ⟨h.os, h.tape, h.output, h.size, fun k hk ho => h.block k hk (by omega)⟩
/-- What lies ahead of all that has turned. -/
theorem Inn.below {W : World} (hb : Below W.heap.size W w) (h : Inn lo hi w w') (hl : W.heap.size ≤ lo) : Below W.heap.size W w' :=
  ⟨h.os.trans hb.os, h.tape.trans hb.tape, h.output.trans hb.output, Nat.le_trans hb.size h.size, fun k hk => (h.block k (by have := hb.size; omega) (by omega)).trans (hb.block k hk)⟩
theorem Inn.ahead (h : Inn lo hi w w') (hl : lo ≤ w.heap.size) : Below lo w w' := ⟨h.os, h.tape, h.output, h.size, fun k hk => h.block k (by omega) (by omega)⟩
theorem At.inn {g : Nat} {cs : List Value} (h : At g cs w) (k : Inn lo hi w w') (hg : g < lo ∨ hi ≤ g) : At g cs w' := h.keep fun hl => k.block g hl hg
theorem Own.inn {B s n : Nat} {v : Value} {xs : List Value} (h : Own w B s v n xs) (k : Inn lo hi w w') (hv : ∀ g, v.ownBlock = some g → g < lo ∨ hi ≤ g) : Own w' B s v n xs :=
  h.keep k.size fun g hg => k.block g (h.lt g hg).2 (hv g hg)
end

/-- The two lie in no one block. -/
def ApartV (v1 v2 : Value) : Prop := ∀ k, v1.ownBlock = some k → v2.ownBlock ≠ some k
/-- A slice of slices of bytes that a call made: all of it lies from block lo on, ahead of block hi, no two slices in one block. -/
structure OwnG (w : World) (lo hi : Nat) (v : Value) (zss : List (List Int)) (xs : List Value) : Prop where
  own : Own w lo 1 v zss.length xs
  top : hi ≤ w.heap.size
  lt : ∀ k, v.ownBlock = some k → k < hi
  row : ∀ (j : Nat) (u : Value), xs[j]? = some u → OwnK .u8 w lo u (zss[j]?.getD []) ∧ (∀ k, u.ownBlock = some k → k < hi) ∧ ApartV u v
  sep : ∀ (i j : Nat) (u1 u2 : Value), i ≠ j → xs[i]? = some u1 → xs[j]? = some u2 → ApartV u1 u2
section
variable {w w' : World} {lo hi : Nat} {v : Value} {zss : List (List Int)} {xs : List Value}
theorem OwnG.len (h : OwnG w lo hi v zss xs) : xs.length = zss.length := by have := h.own.1; omega
theorem OwnG.nil (w : World) (lo hi : Nat) (h : hi ≤ w.heap.size) : OwnG w lo hi (.slice none 0 0) [] [] :=
  ⟨Own.nil w lo 1, h, fun k hk => by simp [Value.ownBlock] at hk, fun j u hu => by simp at hu, fun i j u1 u2 _ hu => by simp at hu⟩
theorem OwnG.less {lo' : Nat} (h : OwnG w lo hi v zss xs) (hl : lo' ≤ lo) : OwnG w lo' hi v zss xs :=
  ⟨h.own.less hl, h.top, h.lt, fun j u hu => by obtain ⟨a, b, c⟩ := h.row j u hu; exact ⟨Own.less a hl, b, c⟩, h.sep⟩
theorem OwnG.more {hi' : Nat} (h : OwnG w lo hi v zss xs) (h1 : hi ≤ hi') (h2 : hi' ≤ w.heap.size) : OwnG w lo hi' v zss xs :=
  ⟨h.own, h2, fun k hk => by have := h.lt k hk; omega, fun j u hu => by
    obtain ⟨a, b, c⟩ := h.row j u hu
    exact ⟨a, fun k hk => by have := b k hk; omega, c⟩, h.sep⟩
theorem OwnG.keep (h : OwnG w lo hi v zss xs) (hs : w.heap.size ≤ w'.heap.size) (hk : ∀ k, lo ≤ k → k < hi → w'.heap[k]? = w.heap[k]?) : OwnG w' lo hi v zss xs :=
  ⟨h.own.keep hs fun k e => hk k (h.own.lt k e).1 (h.lt k e), Nat.le_trans h.top hs, h.lt, fun j u hu => by
    obtain ⟨a, b, c⟩ := h.row j u hu
    exact ⟨Own.keep a hs fun k e => hk k (Own.lt a k e).1 (b k e), b, c⟩, h.sep⟩
theorem OwnG.keepP (h : OwnG w lo hi v zss xs) (hs : w.heap.size ≤ w'.heap.size) (hv : ∀ k, v.ownBlock = some k → w'.heap[k]? = w.heap[k]?) (hx : ∀ (i : Nat) (u : Value) (k : Nat), xs[i]? = some u → u.ownBlock = some k → w'.heap[k]? = w.heap[k]?) : OwnG w' lo hi v zss xs :=
  ⟨h.own.keep hs hv, Nat.le_trans h.top hs, h.lt, fun j u hu => by
    obtain ⟨a, b, c⟩ := h.row j u hu
    exact ⟨Own.keep a hs fun k e => hx j u k hu e, b, c⟩, h.sep⟩
theorem OwnG.below (h : OwnG w lo hi v zss xs) (hb : Below w.heap.size w w') : OwnG w' lo hi v zss xs :=
  h.keep hb.size fun k _ h2 => hb.block k (by have := h.top; omega)
theorem OwnG.alloc (h : OwnG w lo hi v zss xs) (o : Obj) : OwnG (w.alloc o) lo hi v zss xs := h.below (bal (Below.refl _ _) o)
theorem OwnG.inn {l2 h2 : Nat} (h : OwnG w lo hi v zss xs) (k : Inn l2 h2 w w') (hd : hi ≤ l2 ∨ h2 ≤ lo) : OwnG w' lo hi v zss xs :=
  h.keep k.size fun i h3 h4 => k.block i (by have := h.top; omega) (by omega)
theorem OwnG.setCell (h : OwnG w lo hi v zss xs) {p : Addr} (hp : p.block < lo ∨ hi ≤ p.block) (u : Value) : OwnG (w.setCell p u) lo hi v zss xs :=
  h.keep (by simp [World.setCell]) fun k h1 h2 => Below.heap_setCell w p u k (by omega)
theorem OwnG.form (h : OwnG w lo hi v zss xs) : ∃ a cap, v = .slice a zss.length cap ∧ zss.length ≤ cap ∧ cap ≤ maxLen ∧ (a = none → zss.length = 0 ∧ cap = 0) := h.own.form
/-- It can be read. -/
theorem OwnG.grid {a : Option Addr} {len cap : Nat} (h : OwnG w lo hi (.slice a len cap) zss xs) (hw : ∀ zs ∈ zss, ∀ z ∈ zs, (Lit.int .u8 z).wf = true) : Grid w w.heap.size a len cap zss := by
  have hl := h.len
  rcases h.own.2 with ⟨e, h0⟩ | ⟨g, c, e, hb, hg, h1, h2, hc, _⟩
  · injection e with e1 e2 e3
    subst e1; subst e2; subst e3
    obtain rfl : zss = [] := List.eq_nil_of_length_eq_zero h0
    exact Grid.nil _ _
  · injection e with e1 e2 e3
    subst e1; subst e2; subst e3
    refine ⟨rfl, h1, h2, fun hp => ⟨g, 0, rfl, hg, fun j hj => ?_⟩⟩
    have hj2 : j < xs.length := by omega
    have hu : xs[j]? = some xs[j] := List.getElem?_eq_getElem hj2
    obtain ⟨hrow, hlt, _⟩ := h.row j _ hu
    obtain ⟨a', c', ev, _⟩ := Own.form hrow
    refine ⟨a', _, c', by rw [Nat.zero_add, hc j _ hu, ev], ?_⟩
    rw [ev] at hrow
    exact Own.row hrow fun z hz => hw _ (by
      have : j < zss.length := by omega
      rw [List.getElem?_eq_getElem this]
      exact List.getElem_mem this) z hz
theorem OwnG.len' {a : Option Addr} {len cap : Nat} (h : OwnG w lo hi (.slice a len cap) zss xs) : len = zss.length := by
  obtain ⟨a', c', e, _⟩ := h.form
  injection e
/-- One more slice of new memory is appended. -/
theorem OwnG.app {w1 w2 : World} {v' u : Value} {zs : List Int} (h : OwnG w lo w.heap.size v zss xs) (hlow : lo ≤ w.heap.size) (hb : Below w.heap.size w w1) (hu : OwnK .u8 w1 w.heap.size u zs)
    (ho : Own w2 lo 1 v' (zss.length + 1) (xs ++ [u])) (hg : w1.grownBy w2 v.ownBlock) (hat : v'.ownBlock = v.ownBlock ∨ v'.ownBlock = some w1.heap.size) : OwnG w2 lo w2.heap.size v' (zss ++ [zs]) (xs ++ [u]) := by
  have hl := h.len
  have old : ∀ j x, xs[j]? = some x → OwnK .u8 w2 lo x (zss[j]?.getD []) ∧ (∀ k, x.ownBlock = some k → k < w.heap.size) ∧ ApartV x v := fun j x hx => by
    obtain ⟨a, b, c⟩ := h.row j x hx
    exact ⟨Own.keep (Own.below a hb) hg.size fun k e => hg.block k (by have := b k e; have := hb.size; omega) (fun e2 => c k e e2.symm), b, c⟩
  have hsz := hb.size
  have hsz2 := hg.size
  have hv := fun k e => h.lt k e
  have new : OwnK .u8 w2 w.heap.size u zs := Own.keep hu hg.size fun k e => hg.block k (Own.lt hu k e).2 (fun e2 => by have := hv k e2.symm; have := (Own.lt hu k e).1; omega)
  have nlt := fun k e => Own.lt hu k e
  refine ⟨by simpa using ho, Nat.le_refl _, fun k e => (ho.lt k e).2, fun j x hx => ?_, fun i j u1 u2 hij h1 h2 => ?_⟩
  · rcases Nat.lt_or_ge j xs.length with hj | hj
    · rw [List.getElem?_append_left hj] at hx
      obtain ⟨a, b, c⟩ := old j x hx
      refine ⟨by rw [List.getElem?_append_left (by omega)]; exact a, fun k e => by have := b k e; omega, fun k e e2 => ?_⟩
      rcases hat with ha | ha
      · rw [ha] at e2; exact c k e e2
      · rw [ha] at e2
        injection e2 with e2
        have := b k e
        omega
    · have hj2 : j = xs.length := by
        have := (List.getElem?_eq_some_iff.1 hx).1
        simp at this
        omega
      subst hj2
      rw [List.getElem?_append_right (Nat.le_refl _), Nat.sub_self] at hx
      simp at hx
      subst hx
      refine ⟨?_, fun k e => by have := (nlt k e).2; omega, fun k e e2 => ?_⟩
      · rw [hl, List.getElem?_append_right (Nat.le_refl _), Nat.sub_self]
        exact Own.less new hlow
      · rcases hat with ha | ha
        · rw [ha] at e2
          have := hv k e2
          have := (nlt k e).1
          omega
        · rw [ha] at e2
          injection e2 with e2
          have := (nlt k e).2
          omega
  · have key : ∀ i x, (xs ++ [u])[i]? = some x → (i < xs.length ∧ xs[i]? = some x) ∨ (i = xs.length ∧ x = u) := fun i x hx => by
      rcases Nat.lt_or_ge i xs.length with hj | hj
      · rw [List.getElem?_append_left hj] at hx
        exact .inl ⟨hj, hx⟩
      · have hj2 : i = xs.length := by
          have := (List.getElem?_eq_some_iff.1 hx).1
          simp at this
          omega
        subst hj2
        rw [List.getElem?_append_right (Nat.le_refl _), Nat.sub_self] at hx
        simp at hx
        exact .inr ⟨rfl, hx.symm⟩
    rcases key i u1 h1 with ⟨a1, a2⟩ | ⟨a1, a2⟩ <;> rcases key j u2 h2 with ⟨b1, b2⟩ | ⟨b1, b2⟩
    · exact h.sep i j u1 u2 hij a2 b2
    · subst b2
      intro k e e2
      have := (old i u1 a2).2.1 k e
      have := (nlt k e2).1
      omega
    · subst a2
      intro k e e2
      have := (old j u2 b2).2.1 k e2
      have := (nlt k e).1
      omega
    · omega
end
end Go.Proofs.Ytefgimpodhjdpab
