/- Texts of this seat that several laws rest on, laid into one. Conditions: as each theorem states. -/
import Derived.Test.YtmdknbgpddnplaaGreatDoorS0
import Derived.Test.YtmdknbgpddnplaaGreatDoorS1
import Derived.OrdersHeld
import Derived.Deep.Quiet
import Derived.BigQuiet
import Derived.Laws.BytesString
import Derived.Laws.CopyOwn
import Derived.Scope
namespace Go.Proofs.YtmdknbgpddnplaaGreatDoor
open Go.RowKit

theorem Row.alloc {k : IntKind} {w : World} {B : Nat} {a : Option Addr} {len cap : Nat} {zs : List Int} (h : Row k w B a len cap zs) (hB : B ≤ w.heap.size) (o : Obj) : Row k (w.alloc o) B a len cap zs :=
  h.below ((Below.refl B w).alloc hB o)

theorem Row.on {k : IntKind} {w w' : World} {a : Option Addr} {len cap : Nat} {zs : List Int} (h : Row k w w.heap.size a len cap zs) (hb : Below w.heap.size w w') : Row k w' w'.heap.size a len cap zs := (h.below hb).more hb.size

/-- The first j of n cells of the block that w's next one is are told. -/
structure Fill (k : IntKind) (w : World) (n : Nat) (zs : List Int) (j : Nat) (wr : World) : Prop where
  bel : Below w.heap.size w wr
  lt : w.heap.size < wr.heap.size
  room : ∀ i, i < n → (∃ u, wr.cell? ⟨w.heap.size, i, none⟩ = some u) ∧ wr.frozen? ⟨w.heap.size, i, none⟩ = false
  told : ∀ i, i < j → wr.cell? ⟨w.heap.size, i, none⟩ = some (.int k (zs.getD i 0))
theorem Fill.new (k : IntKind) (w : World) (n : Nat) (zs : List Int) (cur : Array Value) (e : TypeId) (hs : cur.size = n) : Fill k w n zs 0 (w.alloc (.cells cur e)) := by
  have e1 : (w.alloc (.cells cur e)).heap[w.heap.size]? = some (.cells cur e) := (MapKept.heap_alloc w _).1
  refine ⟨bal (Below.refl _ _) _, by simp, fun i hi => ?_, fun i hi => absurd hi (by omega)⟩
  unfold World.cell? World.frozen?
  rw [e1]
  simp [show i < cur.size by omega]
theorem Fill.step {k : IntKind} {w : World} {n : Nat} {zs : List Int} {j : Nat} {wr : World} (h : Fill k w n zs j wr) (hj : j < n) : Fill k w n zs (j + 1) (wr.setCell ⟨w.heap.size, j, none⟩ (.int k (zs[j]?.getD 0))) := by
  refine ⟨h.bel.setCell (Nat.le_refl _) _, by simpa [World.setCell] using h.lt, fun i hi => ?_, fun i hi => ?_⟩
  · obtain ⟨⟨u, hu⟩, hf⟩ := h.room i hi
    refine ⟨?_, by rw [World.frozen?_setCell]; exact hf⟩
    obtain ⟨v, hv⟩ := cell?_setCell_some (w := wr) (p := ⟨w.heap.size, j, none⟩) (x := .int k (zs[j]?.getD 0)) (q := ⟨w.heap.size, i, none⟩) (v := u) hu
    exact ⟨v, hv⟩
  · rcases Nat.lt_or_ge i j with hlt | hge
    · rw [World.cell?_setCell_other _ _ _ _ (fun e => by injection e with _ e2; omega)]
      exact h.told i hlt
    · obtain rfl : i = j := by omega
      obtain ⟨⟨u, hu⟩, _⟩ := h.room i hj
      rw [World.cell?_setCell_same _ _ _ (by rw [hu])]
      simp [List.getD]
theorem Fill.own {k : IntKind} {w : World} {zs : List Int} {wr : World} {n : Nat} (hn : zs.length = n) (h : Fill k w n zs n wr) (hm : n ≤ maxLen) : OwnK k wr w.heap.size (.slice (some ⟨w.heap.size, 0, none⟩) n n) zs := by
  subst hn
  refine ⟨by simp, .inr ⟨w.heap.size, _, rfl, Nat.le_refl _, h.lt, Nat.le_refl _, hm, fun j u hu => ?_, fun j hj => ?_⟩⟩
  · have hj := (List.getElem?_eq_some_iff.1 hu).1
    simp at hj
    rw [h.told j hj]
    rw [← hu]
    simp [List.getD, hj]
  · obtain ⟨⟨u, hu⟩, hf⟩ := h.room j (by omega)
    exact ⟨by rw [hu]; rfl, hf⟩

/-- A slice of numbers was copied. -/
def Copied (k : IntKind) (n : Nat) (zs : List Int) (w : World) (r : Ending) (w' : World) : Prop :=
  r = .returned (.slice (some ⟨w.heap.size, 0, none⟩) n n) ∧ OwnK k w' w.heap.size (.slice (some ⟨w.heap.size, 0, none⟩) n n) zs ∧ Below w.heap.size w w'

end Go.Proofs.YtmdknbgpddnplaaGreatDoor
namespace Go.Proofs.YtmdknbgpddnplaaGreatDoor
open Go.RowKit

/-- A block of numbers that is known whole, read as a slice. -/
theorem row_at {k : IntKind} {w : World} (g n : Nat) (zs : List Int) (t : TypeId) (hg : w.heap[g]? = some (.cells (zs.map (Value.int k)).toArray t)) (hn : zs.length = n) (hm : n ≤ maxLen) (hw : ∀ z ∈ zs, (Lit.int k z).wf = true) :
    Row k w (g + 1) (some ⟨g, 0, none⟩) n n zs :=
  ⟨hn, hw, Nat.le_refl _, hm, fun _ => ⟨g, 0, rfl, by omega, fun j hj => by
    rw [Nat.zero_add]
    unfold World.cell?
    rw [hg]
    simp [List.getD, show j < zs.length by omega]⟩⟩
theorem sum_wf {z : Int} (h : M.sumB z = true) : (Lit.int .i64 z).wf = true := by
  simp only [M.sumB, decide_eq_true_eq] at h
  simp [Lit.wf, IntKind.min, IntKind.max, IntKind.signed, IntKind.bits]; omega
theorem row_one {w : World} (o : Obj) (z : Int) (t : TypeId) (h : M.sumB z = true) : Row .i64 ((w.alloc o).alloc (.cells #[.int .i64 z] t)) (w.heap.size + 1 + 1) (some ⟨w.heap.size + 1, 0, none⟩) 1 1 [z] := by
  refine row_at (w.heap.size + 1) 1 [z] t ?_ rfl (by simp only [maxLen]; omega) (fun x hx => by simp at hx; subst hx; exact sum_wf h)
  have := (MapKept.heap_alloc (w.alloc o) (.cells #[.int .i64 z] t)).1
  rw [show (w.alloc o).heap.size = w.heap.size + 1 by simp] at this
  exact this

theorem row_one0 {w : World} (z : Int) (t : TypeId) (h : M.sumB z = true) : Row .i64 (w.alloc (.cells #[.int .i64 z] t)) (w.heap.size + 1) (some ⟨w.heap.size, 0, none⟩) 1 1 [z] :=
  row_at w.heap.size 1 [z] t (MapKept.heap_alloc w _).1 rfl (by simp only [maxLen]; omega) (fun x hx => by simp at hx; subst hx; exact sum_wf h)
theorem keyD_ok {k : Int} {s : ByteArray} (h : ((M.keyD k s).1 == 0) = true) : M.sumB k = true := by
  cases hk : M.sumB k
  · simp [M.keyD, hk] at h
  · rfl
def sameS (a b : Int) : Bool := M.sumB a && (a == b)
end Go.Proofs.YtmdknbgpddnplaaGreatDoor
namespace Go.Proofs.YtmdknbgpddnplaaGreatDoor
open Go.RowKit
set_option maxRecDepth 100000

/-- The program's table of labels holds these words. -/
structure Labels (w : World) : Prop where
  streamW : w.cell? ⟨0, 0, none⟩ = some (.string M.streamS)
  heardW : w.cell? ⟨0, 1, none⟩ = some (.string M.heardS)
  nonceW : w.cell? ⟨0, 2, none⟩ = some (.string M.nonceS)
  signW : w.cell? ⟨0, 3, none⟩ = some (.string M.signS)
  macW : w.cell? ⟨0, 4, none⟩ = some (.string M.macS)
  sealW : w.cell? ⟨0, 5, none⟩ = some (.string M.sealS)
  spkiW : w.cell? ⟨0, 6, none⟩ = some (.string M.spkiS)
  rollW : w.cell? ⟨0, 7, none⟩ = some (.string M.rollS)
theorem Labels.on {w w' : World} (h : Labels w) (hb : Below w.heap.size w w') : Labels w' := ⟨cell_keep hb h.streamW, cell_keep hb h.heardW, cell_keep hb h.nonceW, cell_keep hb h.signW, cell_keep hb h.macW, cell_keep hb h.sealW, cell_keep hb h.spkiW, cell_keep hb h.rollW⟩

theorem Labels.grew {w w' : World} {row : Option Nat} (h : Labels w) (hg : w.grownBy w' row) (hr : ∀ k, row = some k → 0 < k) : Labels w' := by
  have hn : ∀ i, some (Addr.block ⟨0, i, none⟩) ≠ row := fun i e => by have := hr _ e.symm; exact absurd this (Nat.lt_irrefl _)
  exact ⟨hg.cell h.streamW (hn 0), hg.cell h.heardW (hn 1), hg.cell h.nonceW (hn 2), hg.cell h.signW (hn 3), hg.cell h.macW (hn 4), hg.cell h.sealW (hn 5), hg.cell h.spkiW (hn 6), hg.cell h.rollW (hn 7)⟩
theorem Labels.keep {w w' : World} (h : Labels w) (hb : w'.heap[0]? = w.heap[0]?) : Labels w' := ⟨(World.cell?_of_block (w := w) (a := ⟨0, 0, none⟩) hb).trans h.streamW, (World.cell?_of_block (w := w) (a := ⟨0, 1, none⟩) hb).trans h.heardW, (World.cell?_of_block (w := w) (a := ⟨0, 2, none⟩) hb).trans h.nonceW, (World.cell?_of_block (w := w) (a := ⟨0, 3, none⟩) hb).trans h.signW, (World.cell?_of_block (w := w) (a := ⟨0, 4, none⟩) hb).trans h.macW, (World.cell?_of_block (w := w) (a := ⟨0, 5, none⟩) hb).trans h.sealW, (World.cell?_of_block (w := w) (a := ⟨0, 6, none⟩) hb).trans h.spkiW, (World.cell?_of_block (w := w) (a := ⟨0, 7, none⟩) hb).trans h.rollW⟩
theorem Labels.lt {w : World} (h : Labels w) : 0 < w.heap.size := cell_lt h.streamW

/-- A code and bytes in new memory. -/
def BytesRes (c : Int) (zs : List Int) (w : World) (r : Ending) (w' : World) : Prop :=
  ∃ a len cap, r = .returned (.agg #[.int .i64 c, .slice a len cap]) ∧ OwnK .u8 w' w.heap.size (.slice a len cap) zs ∧ Below w.heap.size w w'

theorem row_three {w : World} (x y z : Int) (t : TypeId) (hx : M.sumB x = true) (hy : M.sumB y = true) (hz : M.sumB z = true) : Row .i64 (w.alloc (.cells #[.int .i64 x, .int .i64 y, .int .i64 z] t)) (w.heap.size + 1) (some ⟨w.heap.size, 0, none⟩) 3 3 [x, y, z] :=
  row_at w.heap.size 3 [x, y, z] t (MapKept.heap_alloc w _).1 rfl (by simp only [maxLen]; omega) (fun u hu => by
    simp at hu
    rcases hu with rfl | rfl | rfl
    · exact sum_wf hx
    · exact sum_wf hy
    · exact sum_wf hz)

def StreamRel (W : World) (key seq : Int) (k : Nat) (v : Value) (wr : World) : Prop := OwnK .u8 wr W.heap.size v (M.streamL key seq k) ∧ Below W.heap.size W wr
theorem StreamRel.step {W wr w1 w2 : World} {key seq : Int} {k : Nat} {v v' : Value} {o o' : Obj} (h : StreamRel W key seq k v wr) (hb : Below (wr.alloc o).heap.size (wr.alloc o) w1)
    (ho : Own w2 W.heap.size 1 v' ((M.streamL key seq k).length + 1) ((M.streamL key seq k).map (Value.int .u8) ++ [.int .u8 (M.streamB key seq k)])) (hg : (w1.alloc o').grownBy w2 v.ownBlock) : StreamRel W key seq (k + 1) v' w2 := by
  refine ⟨?_, ?_⟩
  · unfold OwnK
    rw [M.streamL_succ]
    simpa using ho
  · have h1 : Below W.heap.size W (w1.alloc o') := bal (btr (bal h.2 o) hb) o'
    have h2 : Own (w1.alloc o') W.heap.size 1 v _ _ := ((h.1.alloc o).below hb).alloc o'
    exact h2.grown h1 h1.size hg

theorem StreamRel.step1 {W wr w1 w2 : World} {key seq : Int} {k : Nat} {v v' : Value} {o' : Obj} (h : StreamRel W key seq k v wr) (hb : Below wr.heap.size wr w1)
    (ho : Own w2 W.heap.size 1 v' ((M.streamL key seq k).length + 1) ((M.streamL key seq k).map (Value.int .u8) ++ [.int .u8 (M.streamB key seq k)])) (hg : (w1.alloc o').grownBy w2 v.ownBlock) : StreamRel W key seq (k + 1) v' w2 := by
  refine ⟨?_, ?_⟩
  · unfold OwnK
    rw [M.streamL_succ]
    simpa using ho
  · have h1 : Below W.heap.size W (w1.alloc o') := bal (btr h.2 hb) o'
    have h2 : Own (w1.alloc o') W.heap.size 1 v _ _ := (h.1.below hb).alloc o'
    exact h2.grown h1 h1.size hg

def StreamOwn (key seq : Int) (n : Nat) (w : World) (r : Ending) (w' : World) : Prop := ∃ a len cap, r = .returned (.slice a len cap) ∧ OwnK .u8 w' w.heap.size (.slice a len cap) (M.streamL key seq n) ∧ Below w.heap.size w w'
theorem own_empty (w : World) (e : TypeId) : Own (w.alloc (.cells #[] e)) w.heap.size 1 (.slice (some ⟨w.heap.size, 0, none⟩) 0 0) 0 [] :=
  Own.made w #[] e 0 (Nat.le_refl _) (Nat.zero_le _) rfl

theorem strB_yes {key seq n : Int} (h : M.strB key seq n = true) : M.sumB key = true ∧ M.sumB seq = true ∧ 0 ≤ n ∧ n ≤ 200 := by
  simp only [M.strB, Bool.and_eq_true, decide_eq_true_eq] at h
  exact ⟨h.1.1, h.1.2, h.2.1, h.2.2⟩
end Go.Proofs.YtmdknbgpddnplaaGreatDoor
namespace Go.Proofs.YtmdknbgpddnplaaGreatDoor
open Go.RowKit

/-- The worlds of which S holds, named by themselves. -/
structure Of (S : World → Prop) where
  val : World
  prop : S val

/-- Nothing of W has turned. -/
structure Bel (W w : World) : Prop where
  out : Below W.heap.size W w
theorem Bel.on {W w w' : World} (h : Bel W w) (hb : Below w.heap.size w w') : Bel W w' := ⟨btr h.out hb⟩
theorem Bel.drew (W : World) : Bel W W.drew := ⟨(Below.refl _ _).drew⟩

/-- Two numbers lie at block g, behind what was there. -/
structure SigAt (w : World) (g : Nat) (p q : Int) (cur : World) : Prop where
  bel : Below w.heap.size w cur
  c0 : cur.cell? ⟨g, 0, none⟩ = some (.int .i64 p)
  c1 : cur.cell? ⟨g, 1, none⟩ = some (.int .i64 q)
theorem SigAt.on {w : World} {g : Nat} {p q : Int} {cur cur' : World} (h : SigAt w g p q cur) (hb : Below cur.heap.size cur cur') : SigAt w g p q cur' := ⟨btr h.bel hb, cell_keep hb h.c0, cell_keep hb h.c1⟩
theorem SigAt.set {w : World} {g : Nat} {p q : Int} {cur : World} (h : SigAt w g p q cur) (hg : w.heap.size < g) {x y : Value} : SigAt w g p q ((cur.setCell ⟨w.heap.size, 0, none⟩ x).setCell ⟨w.heap.size, 1, none⟩ y) := by
  have ne : ∀ i j, (⟨w.heap.size, i, none⟩ : Addr) ≠ ⟨g, j, none⟩ := fun i j e => by injection e with e1; omega
  refine ⟨bset (bset h.bel (Nat.le_refl _) _) (Nat.le_refl _) _, ?_, ?_⟩
  · rw [World.cell?_setCell_other _ _ _ _ (ne 1 0), World.cell?_setCell_other _ _ _ _ (ne 0 0)]; exact h.c0
  · rw [World.cell?_setCell_other _ _ _ _ (ne 1 1), World.cell?_setCell_other _ _ _ _ (ne 0 1)]; exact h.c1

/-- It reads, and does nothing else. -/
def readsB (o : Oper) : Bool := match o.op with
  | .move _ => true
  | .assign _ => true
  | .pick _ _ _ => true
  | .load _ _ => true
  | .binOp _ _ _ _ _ => true
  | .unOp _ _ _ => true
  | .slice _ _ _ _ _ => true
  | .fieldAddr _ _ _ => true
  | .field _ _ _ => true
  | .indexAddr _ _ _ => true
  | .index _ _ _ => true
  | .extract _ _ => true
  | .nilCheck _ => true
  | .convert _ _ _ => true
  | .build _ _ => true
  | .call c => match c.callee with
    | .builtin .len => true
    | _ => false
  | _ => false

theorem value_of_bind {P : Program} {s : Sem Value} {w w' : World} {n : Next} (h : (s >>= fun x => pure (Next.value x)).run P w = .ok n w') : ∃ u, n = .value u := by
  rw [Sem.run_bind] at h
  cases hs : s.run P w with
  | ok x w1 =>
    rw [hs] at h
    simp only [Result.andThen_ok, Sem.run_pure] at h
    injection h with h1 h2
    exact ⟨x, h1.symm⟩
  | halt x w1 =>
    rw [hs] at h
    cases h
theorem bind_tail {P : Program} {α β : Type} {s : Sem α} {f : α → Sem β} {w w' : World} {n : β} (h : (s >>= f).run P w = .ok n w') : ∃ x w1, (f x).run P w1 = .ok n w' := by
  rw [Sem.run_bind] at h
  cases hs : s.run P w with
  | ok x w1 =>
    rw [hs] at h
    exact ⟨x, w1, by simpa only [Result.andThen_ok] using h⟩
  | halt x w1 =>
    rw [hs] at h
    cases h
theorem reads_value {P : Program} {o : Oper} (h : readsB o = true) {ρ : Operand → Value} {w w' : World} {n : Next} (hr : (execOp ρ o).run P w = .ok n w') : ∃ u, n = .value u := by
  unfold execOp at hr
  unfold readsB at h
  cases hop : o.op <;> rw [hop] at h hr <;> first | (cases h; done) | skip
  case move x => simp only [Sem.run_pure] at hr; injection hr with h1 h2; exact ⟨_, h1.symm⟩
  case assign x => simp only [Sem.run_pure] at hr; injection hr with h1 h2; exact ⟨_, h1.symm⟩
  case pick c x y =>
    have := value_of_bind (s := do pure (if ← asBool (ρ c) then ρ x else ρ y)) (P := P) (w := w) (w' := w') (n := n) (by simpa using hr)
    exact this
  case call c =>
    simp only at h
    split at h
    · rename_i hc
      simp only [resolve, hc, invoke, builtin] at hr
      simp only [Sem.run_bind, Sem.run_pure, Result.andThen_ok] at hr
      exact value_of_bind (P := P) (s := Builtin.len_ c.argTypes o.type (Array.map ρ c.args)) (w := w) (w' := w') (by rw [Sem.run_bind]; simpa only [Sem.run_pure] using hr)
    · cases h
  case nilCheck x =>
    simp only at hr
    split at hr
    · simp [runtimePanic, goPanic, Result.andThen] at hr
    · simp [runtimePanic, goPanic, Result.andThen] at hr
    · simp [runtimePanic, goPanic, Result.andThen] at hr
    · split at hr
      · simp [runtimePanic, goPanic, Result.andThen] at hr
      · obtain ⟨_, _, hr⟩ := bind_tail hr
        obtain ⟨_, _, hr⟩ := bind_tail hr
        split at hr
        · obtain ⟨_, _, hr⟩ := bind_tail hr
          simp only [Sem.run_pure] at hr; injection hr with h1 h2; exact ⟨_, h1.symm⟩
        · simp only [Sem.run_pure] at hr; injection hr with h1 h2; exact ⟨_, h1.symm⟩
      · simp only [Sem.run_pure] at hr; injection hr with h1 h2; exact ⟨_, h1.symm⟩
    · simp only [Sem.run_pure] at hr; injection hr with h1 h2; exact ⟨_, h1.symm⟩
  all_goals exact value_of_bind hr

section
variable {P : Program} {ops : Array Oper} {Q : Exit → Act → World → Prop} {md : Region.Mode} {S : World → Prop}

def wpLine (P : Program) (ops : Array Oper) (S : World → Prop) (Q : Exit → Act → World → Prop) (C : Act → World → Prop) : List (Nat × Bool) → Act → World → Prop
  | [], a, w => C a w
  | (i, m) :: r, a, w => match ops[i]? with
    | none => False
    | some o =>
      if Region.wanted o (yielded ops a.tmps) = true then
        (if m = true then o.quiet P a (fun w' => ∃ x : Of S, w' = x.val) (fun a' => wpLine P ops S Q C r a' w) else o.wp P a w (fun a' w' => S w' ∧ wpLine P ops S Q C r a' w') Q)
      else wpLine P ops S Q C r (a.put o.dst undef) w

/-- What has come up behind a line. -/
def marked (listed : Array Bool) : List (Nat × Bool) → Array Bool
  | [] => listed
  | (i, _) :: r => marked (listed.setIfInBounds i true) r
def segB (md : Region.Mode) (ops : Array Oper) : List (Nat × Bool) → Array Bool → Bool
  | [], _ => true
  | (i, m) :: r, listed =>
    (match ops[i]? with
      | some o => if m then (Region.ready md ops listed).contains i && Region.free md ops listed i && readsB o else decide (Region.ready md ops listed = [i])
      | none => false) && segB md ops r (listed.setIfInBounds i true)

theorem wpAnyH_seg (hs : Region.noSelect ops = true) (hQ : ∀ c a d v w, Q (.panic c) (a.put d v) w → Q (.panic c) a w) {C : Act → World → Prop} (n : Nat) : ∀ (l : List (Nat × Bool)) (listed : Array Bool) (a : Act) (w : World),
    segB md ops l listed = true → S w → (∀ a w, C a w → S w → wpAnyH P md ops Q S n (marked listed l) a w) → wpLine P ops S Q C l a w → wpAnyH P md ops Q S (n + l.length) listed a w
  | [], listed, a, w, _, hS, hC, h => hC a w h hS
  | (i, m) :: r, listed, a, w, hB, hS, hC, h => by
    unfold wpLine at h
    unfold segB at hB
    cases ho : ops[i]? with
    | none => rw [ho] at h; exact h.elim
    | some o =>
      rw [ho] at h hB
      simp only [Bool.and_eq_true] at h hB
      obtain ⟨h1, h2⟩ := hB
      have hC' : ∀ a w, C a w → S w → wpAnyH P md ops Q S n (marked (listed.setIfInBounds i true) r) a w := hC
      have e : n + ((i, m) :: r).length = (n + r.length) + 1 := by simp; omega
      rw [e]
      cases m with
      | true =>
        simp only [if_true, Bool.and_eq_true] at h1 h
        obtain ⟨⟨hr, hf⟩, hrd⟩ := h1
        by_cases hw : Region.wanted o (yielded ops a.tmps) = true
        · rw [if_pos hw] at h
          obtain ⟨v, hv, hn⟩ := h
          refine wpAnyH_take ho hs hf hr (fun c a w => hQ c a _ _ w) (Or.inl ⟨hw, fun w1 hS1 => ?_⟩) hS (wpAnyH_seg hs hQ n r _ _ w h2 hS hC' hn)
          have hq := hv w1 ⟨⟨w1, hS1⟩, rfl⟩
          unfold Oper.quietAt at hq
          cases hx : (execOp a.eval o).run P w1 with
          | halt x w2 => rw [hx] at hq; exact hq.elim
          | ok n w2 =>
            obtain ⟨u, rfl⟩ := reads_value hrd hx
            rw [hx] at hq
            obtain ⟨e1, e2⟩ := hq
            rw [e1, e2]
        · rw [if_neg hw] at h
          have hw' : Region.wanted o (yielded ops a.tmps) = false := by simpa using hw
          exact wpAnyH_take ho hs hf hr (fun c a w => hQ c a _ _ w) (Or.inr ⟨hw', rfl⟩) hS (wpAnyH_seg hs hQ n r _ _ w h2 hS hC' h)
      | false =>
        simp only [Bool.false_eq_true, if_false, decide_eq_true_eq] at h1 h
        refine wpAnyH_all h1 (by simp) fun j hj => ?_
        have hj2 : j = i := by simpa using hj
        subst hj2
        unfold wpOp
        rw [ho]
        by_cases hw : Region.wanted o (yielded ops a.tmps) = true
        · simp only [hw, if_true] at h ⊢
          exact .inl (Oper.wp_mono (fun a' w' h' => ⟨h'.1, wpAnyH_seg hs hQ n r _ a' w' h2 h'.1 hC' h'.2⟩) h)
        · simp only [hw] at h ⊢
          exact ⟨hS, wpAnyH_seg hs hQ n r _ _ w h2 hS hC' h⟩

/-- The same, shut: nothing is reckoned of it till it is opened. -/
structure LineP (P : Program) (ops : Array Oper) (S : World → Prop) (Q : Exit → Act → World → Prop) (C : Act → World → Prop) (l : List (Nat × Bool)) (a : Act) (w : World) : Prop where
  out : wpLine P ops S Q C l a w

theorem wp_region_line {id : Nat} {a : Act} {w : World} {l : List Oper} (S : World → Prop) (π : List (Nat × Bool)) (hm : P.follows .mixedOrders = true)
    (hB : (Region.noSelect l.toArray && decide (π.length = l.length) && segB .any l.toArray π (Array.replicate l.toArray.size false) && (Region.ready .any l.toArray (marked (Array.replicate l.toArray.size false) π)).isEmpty) = true) (hQ : ∀ c a d v w, Q (.panic c) (a.put d v) w → Q (.panic c) a w)
    (hS : S w.drew) (h : LineP P l.toArray S Q (Q .normal) π a w.drew) : (Code.region id l.toArray true).wp P Q a w := by
  simp only [Bool.and_eq_true, decide_eq_true_eq] at hB
  refine wp_region_held (S := S) hm ?_
  have := wpAnyH_seg (md := .any) (C := Q .normal) hB.1.1.1 hQ 0 π _ a w.drew hB.1.2 hS (fun a w hc _ => ⟨by simpa using hB.2, hc⟩) h.out
  rw [hB.1.1.2] at this
  simpa using this

/-- It ends as it should, and in no panic. -/
def OnlyN (K : Act → World → Prop) : Exit → Act → World → Prop
  | .normal, a, w => K a w
  | _, _, _ => False
/-- The same where a panic would be heard by somebody. -/
theorem wp_region_lineN {id : Nat} {a : Act} {w : World} {l : List Oper} (S : World → Prop) (π : List (Nat × Bool)) (hm : P.follows .mixedOrders = true)
    (hB : (Region.noSelect l.toArray && decide (π.length = l.length) && segB .any l.toArray π (Array.replicate l.toArray.size false) && (Region.ready .any l.toArray (marked (Array.replicate l.toArray.size false) π)).isEmpty) = true)
    (hS : S w.drew) (h : LineP P l.toArray S (OnlyN (Q .normal)) (Q .normal) π a w.drew) : (Code.region id l.toArray true).wp P Q a w :=
  wp_mono (wp_region_line (Q := OnlyN (Q .normal)) S π hm hB (fun _ _ _ _ _ h => h.elim) hS h) (fun e a w hq => by cases e <;> first | exact hq | exact hq.elim)

/-- What is left of a region, whichever comes up next. -/
structure AnyP (P : Program) (ops : Array Oper) (S : World → Prop) (Q : Exit → Act → World → Prop) (n : Nat) (listed : Array Bool) (a : Act) (w : World) : Prop where
  out : S w → wpAnyH P .any ops Q S n listed a w
theorem wp_region_fork {id : Nat} {a : Act} {w : World} {l : List Oper} (S : World → Prop) (hm : P.follows .mixedOrders = true) (hS : S w.drew) (h : AnyP P l.toArray S Q l.length (Array.replicate l.toArray.size false) a w.drew) : (Code.region id l.toArray true).wp P Q a w := by
  refine wp_region_held (S := S) hm ?_
  have := h.out hS
  simpa using this
theorem any_seg {a : Act} {w : World} {l : List Oper} {n : Nat} {listed : Array Bool} (m : Nat) (π : List (Nat × Bool)) (hB : (Region.noSelect l.toArray && decide (n = m + π.length) && segB .any l.toArray π listed) = true) (hQ : ∀ c a d v w, Q (.panic c) (a.put d v) w → Q (.panic c) a w)
    (h : LineP P l.toArray S Q (AnyP P l.toArray S Q m (marked listed π)) π a w) : AnyP P l.toArray S Q n listed a w := by
  simp only [Bool.and_eq_true, decide_eq_true_eq] at hB
  refine ⟨fun hS => ?_⟩
  rw [hB.1.2]
  exact wpAnyH_seg (md := .any) hB.1.1 hQ m π _ a w hB.2 hS (fun a w hc hS => hc.out hS) h.out
/-- All that is left, along a line. -/
theorem any_rest {a : Act} {w : World} {l : List Oper} {n : Nat} {listed : Array Bool} (π : List (Nat × Bool)) (hB : (Region.noSelect l.toArray && decide (n = π.length) && segB .any l.toArray π listed && (Region.ready .any l.toArray (marked listed π)).isEmpty) = true) (hQ : ∀ c a d v w, Q (.panic c) (a.put d v) w → Q (.panic c) a w)
    (h : LineP P l.toArray S Q (Q .normal) π a w) : AnyP P l.toArray S Q n listed a w := by
  simp only [Bool.and_eq_true, decide_eq_true_eq] at hB
  refine ⟨fun hS => ?_⟩
  have := wpAnyH_seg (md := .any) (C := Q .normal) hB.1.1.1 hQ 0 π _ a w hB.1.2 hS (fun a w hc _ => ⟨by simpa using hB.2, hc⟩) h.out
  rw [hB.1.1.2]
  simpa using this
/-- Two may come up next. -/
theorem any_fork {a : Act} {w : World} {l : List Oper} {n : Nat} {listed : Array Bool} {o1 o2 : Oper} (i j : Nat) (hr : Region.ready .any l.toArray listed = [i, j]) (ho1 : l[i]? = some o1) (ho2 : l[j]? = some o2) (hw1 : Region.wanted o1 (yielded l.toArray a.tmps) = true) (hw2 : Region.wanted o2 (yielded l.toArray a.tmps) = true)
    (h1 : ∀ K : Act → World → Prop, (∀ a' w', S w' → AnyP P l.toArray S Q n (listed.setIfInBounds i true) a' w' → K a' w') → o1.wp P a w K Q) (h2 : ∀ K : Act → World → Prop, (∀ a' w', S w' → AnyP P l.toArray S Q n (listed.setIfInBounds j true) a' w' → K a' w') → o2.wp P a w K Q) :
    AnyP P l.toArray S Q (n + 1) listed a w := by
  refine ⟨fun hS => wpAnyH_all hr (by simp) fun x hx => ?_⟩
  simp only [List.mem_cons, List.not_mem_nil, or_false] at hx
  rcases hx with rfl | rfl
  · unfold wpOp
    rw [show l.toArray[x]? = some o1 by simpa using ho1]
    simp only [hw1, if_true]
    exact .inl (h1 _ (fun a' w' hS' h' => ⟨hS', h'.out hS'⟩))
  · unfold wpOp
    rw [show l.toArray[x]? = some o2 by simpa using ho2]
    simp only [hw2, if_true]
    exact .inl (h2 _ (fun a' w' hS' h' => ⟨hS', h'.out hS'⟩))

variable {a : Act} {w : World} {i : Nat} {m : Bool} {o : Oper} {r : List (Nat × Bool)} {l : List Oper} {C : Act → World → Prop}
theorem line_read (ho : l[i]? = some o) (hw : Region.wanted o (yielded l.toArray a.tmps) = true)
    (h : ∀ K : Act → Prop, (∀ a', LineP P l.toArray S Q C r a' w → K a') → o.quiet P a (fun w' => ∃ x : Of S, w' = x.val) K) : LineP P l.toArray S Q C ((i, true) :: r) a w := by
  refine ⟨?_⟩
  unfold wpLine
  rw [show l.toArray[i]? = some o by simpa using ho]
  simp only [hw, if_true]
  exact h _ (fun _ h => h.out)
theorem line_skip (ho : l[i]? = some o) (hw : Region.wanted o (yielded l.toArray a.tmps) = false) (h : LineP P l.toArray S Q C r (a.put o.dst undef) w) : LineP P l.toArray S Q C ((i, m) :: r) a w := by
  refine ⟨?_⟩
  unfold wpLine
  rw [show l.toArray[i]? = some o by simpa using ho]
  simp only [hw, Bool.false_eq_true, if_false]
  exact h.out
theorem line_alone (ho : l[i]? = some o) (hw : Region.wanted o (yielded l.toArray a.tmps) = true)
    (h : ∀ K : Act → World → Prop, (∀ a' w', S w' → LineP P l.toArray S Q C r a' w' → K a' w') → o.wp P a w K Q) : LineP P l.toArray S Q C ((i, false) :: r) a w := by
  refine ⟨?_⟩
  unfold wpLine
  rw [show l.toArray[i]? = some o by simpa using ho]
  simp only [hw, if_true, Bool.false_eq_true, if_false]
  exact h _ (fun _ _ h1 h2 => ⟨h1, h2.out⟩)
/-- Function f has a body. -/
def callsB (P : Program) (f : FuncId) : Bool := match P.funcs[f]? with
  | some fn => !(fn.name == "runtime.NumGoroutine") && fn.body.isSome
  | none => false
theorem run_callFunc_body {f : FuncId} (hf : callsB P f = true) (args : Array Value) (w : World) : (callFunc f args).run P w = .ok (.enter f args) w := by
  unfold callsB at hf
  split at hf
  · rename_i fn hfn
    simp only [Bool.and_eq_true, Bool.not_eq_true', beq_eq_false_iff_ne] at hf
    obtain ⟨h1, h2⟩ := hf
    simp [callFunc, hfn, h1]
    intro hb
    rw [hb] at h2
    cases h2
  · cases hf
/-- A call of a Go function, by its contract. -/
theorem call_wp {K : Act → World → Prop} {f : FuncId} {xs : Array Operand} {ts : Array TypeId} {args : Array Value} {v : Value} {R : World → Prop} (ho : o.op = Op.call { callee := .value (.func f), args := xs, argTypes := ts }) (hf : callsB P f = true) (hargs : xs.map a.eval = args)
    (h : Calls P f args w fun e w' => e = .returned v ∧ R w') (hK : ∀ w', R w' → K (a.put o.dst v) w') : o.wp P a w K Q := by
  have e : (execOp a.eval o).run P w = .ok (.enter f args) w := by
    unfold execOp
    simp [ho, resolve, hargs, invoke, Act.eval, Deferred.ofValue, run_callFunc_body hf]
  unfold Oper.wp
  rw [e]
  exact h.mono fun e w' ⟨he, hR⟩ => by subst he; exact hK w' hR
/-- The same where what is answered is known by what it is good for alone. -/
theorem call_any {K : Act → World → Prop} {f : FuncId} {xs : Array Operand} {ts : Array TypeId} {args : Array Value} {R : Ending → World → Prop} (ho : o.op = Op.call { callee := .value (.func f), args := xs, argTypes := ts }) (hf : callsB P f = true) (hargs : xs.map a.eval = args)
    (h : Calls P f args w R) (hK : ∀ e w', R e w' → ∃ v, e = .returned v ∧ K (a.put o.dst v) w') : o.wp P a w K Q := by
  have e : (execOp a.eval o).run P w = .ok (.enter f args) w := by
    unfold execOp
    simp [ho, resolve, hargs, invoke, Act.eval, Deferred.ofValue, run_callFunc_body hf]
  unfold Oper.wp
  rw [e]
  exact h.mono fun e w' hR => by
    obtain ⟨v, he, hk⟩ := hK e w' hR
    subst he
    exact hk
/-- What makes a value out of values, and looks at no memory. -/
theorem line_value {v : Value} (ho : l[i]? = some o) (hw : Region.wanted o (yielded l.toArray a.tmps) = true) (hv : (execOp a.eval o).run P w = .ok (.value v) w) (hS : S w) (h : LineP P l.toArray S Q C r (a.put o.dst v) w) : LineP P l.toArray S Q C ((i, false) :: r) a w :=
  line_alone ho hw fun K hK => by
    unfold Oper.wp
    rw [hv]
    exact hK _ _ hS h
/-- The same as what only reads. -/
theorem line_readv {v : Value} (ho : l[i]? = some o) (hw : Region.wanted o (yielded l.toArray a.tmps) = true) (hv : ∀ w, (execOp a.eval o).run P w = .ok (.value v) w) (h : LineP P l.toArray S Q C r (a.put o.dst v) w) : LineP P l.toArray S Q C ((i, true) :: r) a w :=
  line_read ho hw fun K hK => ⟨v, fun w' _ => by unfold Oper.quietAt; rw [hv]; exact ⟨rfl, rfl⟩, hK _ h⟩
theorem line_nil (h : C a w) : LineP P ops S Q C [] a w := ⟨h⟩
end
end Go.Proofs.YtmdknbgpddnplaaGreatDoor
namespace Go.Proofs.YtmdknbgpddnplaaGreatDoor
open Go.RowKit
set_option maxRecDepth 100000
set_option linter.unusedVariables false

theorem row_two {w : World} (x y : Int) (t : TypeId) (hx : M.sumB x = true) (hy : M.sumB y = true) : Row .i64 (w.alloc (.cells #[.int .i64 x, .int .i64 y] t)) (w.heap.size + 1) (some ⟨w.heap.size, 0, none⟩) 2 2 [x, y] :=
  row_at w.heap.size 2 [x, y] t (MapKept.heap_alloc w _).1 rfl (by simp only [maxLen]; omega) (fun u hu => by
    simp at hu
    rcases hu with rfl | rfl
    · exact sum_wf hx
    · exact sum_wf hy)
/-- The cells of a result that is not yet told. -/
structure Res2 (g : Nat) (w : World) : Prop where
  c0 : w.cell? ⟨g, 0, none⟩ = some (.int .i64 0)
  c1 : w.cell? ⟨g, 1, none⟩ = some (.int .i64 0)
  f0 : w.frozen? ⟨g, 0, none⟩ = false
  f1 : w.frozen? ⟨g, 1, none⟩ = false
theorem Res2.new (w : World) (t : TypeId) : Res2 w.heap.size (w.alloc (.cells #[.int .i64 0, .int .i64 0] t)) := ⟨by go_simp, by go_simp, by go_simp, by go_simp⟩
theorem Res2.on {g : Nat} {w w' : World} (h : Res2 g w) (hb : Below w.heap.size w w') : Res2 g w' :=
  ⟨cell_keep hb h.c0, cell_keep hb h.c1, (hb.frozen (p := ⟨g, 0, none⟩) (cell_lt h.c0)).trans h.f0, (hb.frozen (p := ⟨g, 1, none⟩) (cell_lt h.c1)).trans h.f1⟩
structure Res3 (g : Nat) (w : World) : Prop where
  c0 : w.cell? ⟨g, 0, none⟩ = some (.int .i64 0)
  c1 : w.cell? ⟨g, 1, none⟩ = some (.int .i64 0)
  c2 : w.cell? ⟨g, 2, none⟩ = some (.int .i64 0)
  f0 : w.frozen? ⟨g, 0, none⟩ = false
  f1 : w.frozen? ⟨g, 1, none⟩ = false
  f2 : w.frozen? ⟨g, 2, none⟩ = false
theorem Res3.new (w : World) (t : TypeId) : Res3 w.heap.size (w.alloc (.cells #[.int .i64 0, .int .i64 0, .int .i64 0] t)) := ⟨by go_simp, by go_simp, by go_simp, by go_simp, by go_simp, by go_simp⟩
theorem Res3.on {g : Nat} {w w' : World} (h : Res3 g w) (hb : Below w.heap.size w w') : Res3 g w' :=
  ⟨cell_keep hb h.c0, cell_keep hb h.c1, cell_keep hb h.c2, (hb.frozen (p := ⟨g, 0, none⟩) (cell_lt h.c0)).trans h.f0, (hb.frozen (p := ⟨g, 1, none⟩) (cell_lt h.c1)).trans h.f1, (hb.frozen (p := ⟨g, 2, none⟩) (cell_lt h.c2)).trans h.f2⟩
theorem bdrew (w : World) : Below w.heap.size w w.drew := (Below.refl _ _).drew
/-- Two bytes, the higher one first. -/
theorem or_two (x y : Nat) (hx : x ≤ 255) (hy : y ≤ 255) : bits .or .i64 ((x : Int) * 256) (y : Int) = 256 * (x : Int) + y := by
  have e1 : BitVec.ofInt 64 ((x : Int) * 256) = BitVec.ofNat 64 (x * 256) := by
    rw [show (x : Int) * 256 = ((x * 256 : Nat) : Int) by omega, BitVec.ofInt_natCast]
  have e2 : BitVec.ofInt 64 (y : Int) = BitVec.ofNat 64 y := BitVec.ofInt_natCast ..
  show IntKind.i64.wrap ((BitVec.ofInt 64 ((x : Int) * 256) ||| BitVec.ofInt 64 (y : Int)).toNat : Nat) = _
  rw [e1, e2, BitVec.toNat_or, BitVec.toNat_ofNat, BitVec.toNat_ofNat, Nat.mod_eq_of_lt (by omega), Nat.mod_eq_of_lt (by omega)]
  have h := Nat.shiftLeft_add_eq_or_of_lt (i := 8) (b := y) (by omega) x
  rw [Nat.shiftLeft_eq] at h
  rw [show x * 256 = x * 2 ^ 8 from rfl, ← h, IntKind.wrap_i64]
  omega
structure ResB (g : Nat) (w : World) : Prop where
  c0 : w.cell? ⟨g, 0, none⟩ = some (.int .i64 0)
  c1 : w.cell? ⟨g, 1, none⟩ = some (.slice none 0 0)
  f0 : w.frozen? ⟨g, 0, none⟩ = false
  f1 : w.frozen? ⟨g, 1, none⟩ = false
theorem ResB.new (w : World) (t : TypeId) : ResB w.heap.size (w.alloc (.cells #[.int .i64 0, .slice none 0 0] t)) := ⟨by go_simp, by go_simp, by go_simp, by go_simp⟩
theorem ResB.on {g : Nat} {w w' : World} (h : ResB g w) (hb : Below w.heap.size w w') : ResB g w' :=
  ⟨cell_keep hb h.c0, cell_keep hb h.c1, (hb.frozen (p := ⟨g, 0, none⟩) (cell_lt h.c0)).trans h.f0, (hb.frozen (p := ⟨g, 1, none⟩) (cell_lt h.c1)).trans h.f1⟩
theorem ResB.new2 (w : World) (o : Obj) (t : TypeId) : ResB (w.heap.size + 1) ((w.alloc o).alloc (.cells #[.int .i64 0, .slice none 0 0] t)) := by
  have h := ResB.new (w.alloc o) t
  rw [show (w.alloc o).heap.size = w.heap.size + 1 by simp] at h
  exact h
/-- A slice of new memory was answered. -/
def Made (zs : List Int) (w : World) (r : Ending) (w' : World) : Prop := ∃ a len cap, r = .returned (.slice a len cap) ∧ OwnK .u8 w' w.heap.size (.slice a len cap) zs ∧ Below w.heap.size w w'
theorem own_lit {k : IntKind} (w : World) (zs : List Int) (n : Nat) (t : TypeId) {B : Nat} (hB : B ≤ w.heap.size) (hn : zs.length = n) (hm : n ≤ maxLen) :
    OwnK k (w.alloc (.cells (zs.map (Value.int k)).toArray t)) B (.slice (some ⟨w.heap.size, 0, none⟩) n n) zs := by
  subst hn
  have e1 : (w.alloc (.cells (zs.map (Value.int k)).toArray t)).heap[w.heap.size]? = some (.cells (zs.map (Value.int k)).toArray t) := (MapKept.heap_alloc w _).1
  refine ⟨by simp, .inr ⟨w.heap.size, _, rfl, hB, by simp, Nat.le_refl _, hm, fun j u hu => ?_, fun j hj => ?_⟩⟩
  · unfold World.cell?
    rw [e1]
    simpa using hu
  · unfold World.cell? World.frozen?
    rw [e1]
    simp [show j < zs.length by omega]
theorem blk_cell {w : World} {b : Nat} {cs : Array Value} {t : TypeId} (h : w.heap[b]? = some (.cells cs t)) (i : Nat) : w.cell? ⟨b, i, none⟩ = cs[i]? := by simp [World.cell?, h]
theorem blk_free {w : World} {b : Nat} {cs : Array Value} {t : TypeId} (h : w.heap[b]? = some (.cells cs t)) (i : Nat) : w.frozen? ⟨b, i, none⟩ = false := by simp [World.frozen?, h]
theorem blk_lt {w : World} {b : Nat} {o : Obj} (h : w.heap[b]? = some o) : b < w.heap.size := (Array.getElem?_eq_some_iff.1 h).1
theorem OwnK.put {k : IntKind} {w : World} {B g n c : Nat} {zs : List Int} {i : Nat} {m : Int} (h : OwnK k w B (.slice (some ⟨g, 0, none⟩) n c) zs) (hi : i < zs.length) : OwnK k (w.setCell ⟨g, i, none⟩ (.int k m)) B (.slice (some ⟨g, 0, none⟩) n c) (zs.set i m) := by
  unfold OwnK at *
  rcases h.2 with ⟨e, h0⟩ | ⟨g', c', e, hB, hg, hn, hm, hcell, hroom⟩
  · cases e
  injection e with e1 e2 e3
  injection e1 with e1
  injection e1 with e1 _ _
  subst e1
  subst e3
  refine ⟨by simp, .inr ⟨g, c, by rw [e2]; simp, hB, by simpa [World.setCell] using hg, by simpa using hn, hm, fun j u hu => ?_, fun j hj => ?_⟩⟩
  · have hj := (List.getElem?_eq_some_iff.1 hu).1
    simp at hj
    by_cases hji : j = i
    · subst hji
      obtain ⟨u0, hu0⟩ := Option.isSome_iff_exists.1 (hroom j (by omega)).1
      rw [World.cell?_setCell_same _ _ _ (by rw [hu0]), ← hu]
      simp [hj]
    · rw [World.cell?_setCell_other _ _ _ _ (fun e => by injection e with _ e2; omega)]
      refine hcell j u ?_
      rw [← hu]
      simp [show ¬ i = j by omega]
  · obtain ⟨q1, q2⟩ := hroom j hj
    refine ⟨?_, by rw [World.frozen?_setCell]; exact q2⟩
    obtain ⟨u0, hu0⟩ := Option.isSome_iff_exists.1 q1
    obtain ⟨v, hv⟩ := cell?_setCell_some (w := w) (p := ⟨g, i, none⟩) (x := .int k m) (q := ⟨g, j, none⟩) (v := u0) hu0
    rw [hv]; rfl
end Go.Proofs.YtmdknbgpddnplaaGreatDoor
namespace Go.Proofs.YtmdknbgpddnplaaGreatDoor
open Go.RowKit
set_option maxRecDepth 100000

/-- Block g begins with the cells cs, and they may be written. -/
structure At (g : Nat) (cs : List Value) (w : World) : Prop where
  cell : ∀ i v, cs[i]? = some v → w.cell? ⟨g, i, none⟩ = some v
  free : ∀ i v, cs[i]? = some v → w.frozen? ⟨g, i, none⟩ = false
section
variable {g : Nat} {cs : List Value} {w w' : World}
theorem At.new (w : World) (cs : List Value) (t : TypeId) : At w.heap.size cs (w.alloc (.cells cs.toArray t)) := by
  have e1 : (w.alloc (.cells cs.toArray t)).heap[w.heap.size]? = some (.cells cs.toArray t) := (MapKept.heap_alloc w _).1
  refine ⟨fun i v h => ?_, fun i v h => ?_⟩
  · unfold World.cell?
    rw [e1]
    simpa using h
  · unfold World.frozen?
    rw [e1]
    simp
theorem At.keep (h : At g cs w) (hk : g < w.heap.size → w'.heap[g]? = w.heap[g]?) : At g cs w' :=
  ⟨fun i v hi => (World.cell?_of_block (w := w) (a := ⟨g, i, none⟩) (hk (cell_lt (h.cell i v hi)))).trans (h.cell i v hi),
   fun i v hi => (World.frozen?_of_block (w := w) (a := ⟨g, i, none⟩) (hk (cell_lt (h.cell i v hi)))).trans (h.free i v hi)⟩
theorem At.on (h : At g cs w) (hb : Below w.heap.size w w') : At g cs w' := h.keep fun hg => hb.block g hg
theorem At.alloc (h : At g cs w) (o : Obj) : At g cs (w.alloc o) := h.on (bal (Below.refl _ _) o)
theorem At.kept {row : Option Nat} (h : At g cs w) (hg : w.grownBy w' row) (hne : some g ≠ row) : At g cs w' := h.keep fun hl => hg.block g hl hne
theorem At.setB (h : At g cs w) {p : Addr} (hp : g ≠ p.block) (u : Value) : At g cs (w.setCell p u) := h.keep fun _ => Below.heap_setCell w p u g hp
theorem At.set (h : At g cs w) (i : Nat) (u : Value) : At g (cs.set i u) (w.setCell ⟨g, i, none⟩ u) := by
  refine ⟨fun j v hj => ?_, fun j v hj => ?_⟩
  · by_cases e : i = j
    · subst e
      have hl : i < cs.length := by have := (List.getElem?_eq_some_iff.1 hj).1; simpa using this
      have hc := h.cell i cs[i] (by simp [hl])
      rw [World.cell?_setCell_same _ _ _ (by rw [hc])]
      simpa [hl] using hj
    · rw [World.cell?_setCell_other _ _ _ _ (fun e2 => by injection e2 with _ e3; omega)]
      exact h.cell j v (by simpa [e] using hj)
  · rw [World.frozen?_setCell]
    have hl : j < cs.length := by have := (List.getElem?_eq_some_iff.1 hj).1; simpa using this
    exact h.free j cs[j] (by simp [hl])
theorem At.lt (h : At g cs w) (hl : 0 < cs.length) : g < w.heap.size := cell_lt (h.cell 0 cs[0] (by simp [hl]))
end
/-- Below W, and block g holds the cells cs. -/
structure Hold (W : World) (g : Nat) (cs : List Value) (cur : World) : Prop where
  bel : Below W.heap.size W cur
  at' : At g cs cur
theorem Hold.on {W : World} {g : Nat} {cs : List Value} {cur cur' : World} (h : Hold W g cs cur) (hb : Below cur.heap.size cur cur') : Hold W g cs cur' := ⟨btr h.bel hb, h.at'.on hb⟩
theorem Hold.setB {W : World} {g : Nat} {cs : List Value} {cur : World} (h : Hold W g cs cur) {p : Addr} (hW : W.heap.size ≤ p.block) (hp : g ≠ p.block) (u : Value) : Hold W g cs (cur.setCell p u) := ⟨bset h.bel hW u, h.at'.setB hp u⟩

/-- What a cell holds it holds in each world that has kept it. -/
theorem bel_cell {W : World} {p : Addr} {v : Value} (h : W.cell? p = some v) : ∀ z : Of (Bel W), z.val.cell? p = some v := fun z => cell_keep z.prop.out h
theorem hold_cell {W : World} {g : Nat} {cs : List Value} (i : Nat) (v : Value) (h : cs[i]? = some v) : ∀ z : Of (Hold W g cs), z.val.cell? ⟨g, i, none⟩ = some v := fun z => z.prop.at'.cell i v h
theorem Bel.start (W : World) : Bel W W := ⟨Below.refl _ _⟩
/-- Bytes as a text. -/
def strOf (ns : List Int) : ByteArray := ns.foldl (fun r n => r.push (UInt8.ofNat n.toNat)) ByteArray.empty
theorem conv_row {B : Nat} {a : Option Addr} {len cap : Nat} {zs : List Int} {w : World} (hR : Row .u8 w B a len cap zs) :
    (convert 22 9 (.slice a len cap)).run Tryz.prog w = .ok (.string (strOf zs)) w := by
  rw [run_convert_bytes_string w 22 9 5 a len cap Tryz.underlying22 Tryz.underlying5 Tryz.underlying9]
  rcases Nat.eq_zero_or_pos len with h0 | h0
  · subst h0
    obtain rfl : zs = [] := List.eq_nil_of_length_eq_zero hR.length
    cases a with
    | none => rfl
    | some x => exact run_bytesToString w x 0 cap [] (run_loadCells_list w x [] (fun j v h => by simp at h))
  · obtain ⟨b, off, rfl, hb, hc⟩ := hR.cells h0
    refine run_bytesToString w _ len cap zs ?_
    have := run_loadCells_list (P := Tryz.prog) w ⟨b, off, none⟩ (zs.map (Value.int .u8)) (fun j v h => by
      have hj := (List.getElem?_eq_some_iff.1 h).1
      simp [hR.length] at hj
      rw [Addr.add_lit, hc j hj, ← h]
      simp [List.getD, show j < zs.length by rw [hR.length]; exact hj])
    simpa [hR.length] using this
theorem strOf_data : ∀ (zs : List Int) (s : ByteArray), (zs.foldl (fun r n => r.push (UInt8.ofNat n.toNat)) s).data.toList = s.data.toList ++ zs.map (fun n => UInt8.ofNat n.toNat)
  | [], s => by simp
  | z :: r, s => by
    rw [List.foldl_cons, strOf_data r]
    simp [ByteArray.push]
theorem byte_inj {x y : Int} (hx : M.byteB x) (hy : M.byteB y) (h : UInt8.ofNat x.toNat = UInt8.ofNat y.toNat) : x = y := by
  unfold M.byteB at hx hy
  have := congrArg UInt8.toNat h
  simp at this
  omega
theorem bytes_inj : ∀ {xs ys : List Int}, (∀ z ∈ xs, M.byteB z) → (∀ z ∈ ys, M.byteB z) → xs.map (fun n => UInt8.ofNat n.toNat) = ys.map (fun n => UInt8.ofNat n.toNat) → xs = ys
  | [], [], _, _, _ => rfl
  | [], _ :: _, _, _, h => by simp at h
  | _ :: _, [], _, _, h => by simp at h
  | x :: xs, y :: ys, hx, hy, h => by
    simp only [List.map_cons, List.cons.injEq] at h
    rw [byte_inj (hx x (by simp)) (hy y (by simp)) h.1, bytes_inj (fun z hz => hx z (by simp [hz])) (fun z hz => hy z (by simp [hz])) h.2]
/-- Two texts are one where their bytes are. -/
theorem strOf_inj {xs ys : List Int} (hx : ∀ z ∈ xs, M.byteB z) (hy : ∀ z ∈ ys, M.byteB z) (h : strOf xs = strOf ys) : xs = ys := by
  have := congrArg (fun s : ByteArray => s.data.toList) h
  simp only [strOf, strOf_data] at this
  exact bytes_inj hx hy (by simpa using this)
theorem strOf_beq {xs ys : List Int} (hx : ∀ z ∈ xs, M.byteB z) (hy : ∀ z ∈ ys, M.byteB z) : ((strOf xs).toList == (strOf ys).toList) = decide (xs = ys) := by
  by_cases h : xs = ys
  · subst h; simp
  · rw [decide_eq_false h, beq_eq_false_iff_ne, ByteArray.toList_eq, ByteArray.toList_eq]
    intro e
    simp only [strOf, strOf_data] at e
    exact h (bytes_inj hx hy (by simpa using e))
theorem u8_byte {z : Int} (h : (Lit.int .u8 z).wf = true) : M.byteB z := by
  simp [Lit.wf, IntKind.min, IntKind.max, IntKind.signed, IntKind.bits] at h
  unfold M.byteB
  omega
theorem Row.bytes {w : World} {B : Nat} {a : Option Addr} {len cap : Nat} {zs : List Int} (h : Row .u8 w B a len cap zs) : ∀ z ∈ zs, M.byteB z := fun z hz => u8_byte (h.wf z hz)

/-- A block that is known whole is a slice of the call's own. -/
theorem own_blk {k : IntKind} {w : World} {g B n : Nat} {zs : List Int} {t : TypeId} (hg : w.heap[g]? = some (.cells (zs.map (Value.int k)).toArray t)) (hB : B ≤ g) (hn : zs.length = n) (hm : n ≤ maxLen) : OwnK k w B (.slice (some ⟨g, 0, none⟩) n n) zs := by
  subst hn
  have hl : g < w.heap.size := (Array.getElem?_eq_some_iff.1 hg).1
  refine ⟨by simp, .inr ⟨g, _, rfl, hB, hl, Nat.le_refl _, hm, fun j u hu => ?_, fun j hj => ?_⟩⟩
  · unfold World.cell?
    rw [hg]
    simpa using hu
  · unfold World.cell? World.frozen?
    rw [hg]
    simp [show j < zs.length by omega]
/-- What is appended are the elements of a slice that is read. -/
theorem Row.src {P : Program} {k : IntKind} {w : World} {B : Nat} {a : Option Addr} {len cap : Nat} {zs : List Int} (h : Row k w B a len cap zs) {tx e' : TypeId} (hk : P.underlying tx = some (.slice e')) : Go.Src P 1 tx (.slice a len cap) len (zs.map (Value.int k)) w := by
  rcases Nat.eq_zero_or_pos len with h0 | h0
  · subst h0
    obtain rfl : zs = [] := List.eq_nil_of_length_eq_zero h.length
    cases a with
    | none => exact Src.ofNil w hk cap
    | some x => exact Src.ofSlice w hk x 0 cap [] rfl (fun j u hu => by simp at hu) (fun _ hu => by cases hu)
  · obtain ⟨b, off, rfl, hb, hc⟩ := h.cells h0
    refine Src.ofSlice w hk _ len cap _ (by simp [h.length]) (fun j u hu => ?_) (ints_oneCell k zs)
    have hj := (List.getElem?_eq_some_iff.1 hu).1
    simp [h.length] at hj
    rw [Addr.add_lit, hc j hj, ← hu]
    simp [List.getD, show j < zs.length by rw [h.length]; exact hj]
theorem Row.sub {k : IntKind} {w : World} {B b off len cap : Nat} {zs : List Int} (h : Row k w B (some ⟨b, off, none⟩) len cap zs) (i n' c' : Nat) (hi : i + n' ≤ len) (hn : n' ≤ c') (hc : c' ≤ maxLen) : Row k w B (some ⟨b, off + i, none⟩) n' c' ((zs.drop i).take n') :=
  ⟨by simp [h.length]; omega, fun z hz => h.wf z (List.mem_of_mem_drop (List.mem_of_mem_take hz)), hn, hc, fun hp => by
    obtain ⟨b', off', e, hb, hcell⟩ := h.cells (by omega)
    injection e with e
    injection e with e1 e2
    subst e1
    subst e2
    refine ⟨b, off + i, rfl, hb, fun j hj => ?_⟩
    rw [Nat.add_assoc, hcell (i + j) (by omega)]
    simp [List.getD, List.getElem?_drop, hj]⟩
end Go.Proofs.YtmdknbgpddnplaaGreatDoor
namespace Go.Proofs.YtmdknbgpddnplaaGreatDoor
open Go.RowKit
set_option maxRecDepth 100000
set_option linter.unusedVariables false

/-- A slice of pins that is read: 'ps' are its elements; it lies below block B. -/
structure PRow (w : World) (B : Nat) (a : Option Addr) (len cap : Nat) (ps : List PinD) : Prop where
  length : ps.length = len
  fits : len ≤ cap
  most : cap ≤ maxLen
  names : ∀ p ∈ ps, p.n.size ≤ maxLen
  cells : 0 < len → ∃ b off, a = some ⟨b, off, none⟩ ∧ b < B ∧ ∀ j, j < len → ∀ i v, (ps[j]?.getD pin0).vals[i]? = some v → w.cell? ⟨b, off + j * 5 + i, none⟩ = some v
section
variable {w w' : World} {B B' : Nat} {a : Option Addr} {len cap : Nat} {ps : List PinD}
theorem PRow.keep (h : PRow w B a len cap ps) (hk : ∀ i, i < B → w'.heap[i]? = w.heap[i]?) : PRow w' B a len cap ps :=
  ⟨h.length, h.fits, h.most, h.names, fun hp => by
    obtain ⟨b, off, e, hb, hc⟩ := h.cells hp
    exact ⟨b, off, e, hb, fun j hj i v hv => (World.cell?_of_block (w := w) (hk b hb)).trans (hc j hj i v hv)⟩⟩
theorem PRow.below (h : PRow w B a len cap ps) (hb : Below B w w') : PRow w' B a len cap ps := h.keep hb.block
theorem PRow.more (h : PRow w B a len cap ps) (hB : B ≤ B') : PRow w B' a len cap ps :=
  ⟨h.length, h.fits, h.most, h.names, fun hp => by
    obtain ⟨b, off, e, hb, hc⟩ := h.cells hp
    exact ⟨b, off, e, by omega, hc⟩⟩
theorem PRow.on (h : PRow w w.heap.size a len cap ps) (hb : Below w.heap.size w w') : PRow w' w'.heap.size a len cap ps := (h.below hb).more hb.size
theorem PRow.on' (h : PRow w B a len cap ps) (hB : B ≤ w.heap.size) (hb : Below w.heap.size w w') : PRow w' B a len cap ps := h.below (hb.mono hB)
theorem PRow.alloc (h : PRow w B a len cap ps) (hB : B ≤ w.heap.size) (o : Obj) : PRow (w.alloc o) B a len cap ps := h.below ((Below.refl B w).alloc hB o)
theorem PRow.nil (w : World) (B : Nat) : PRow w B none 0 0 [] := ⟨rfl, Nat.le_refl _, Nat.zero_le _, by simp, fun h => absurd h (by omega)⟩
/-- Element k's five cells. -/
theorem PRow.at' (h : PRow w B a len cap ps) {k : Nat} (hk : k < len) : ∃ b off, a = some ⟨b, off, none⟩ ∧ b < B ∧
    w.cell? ⟨b, off + k * 5, none⟩ = some (.string (ps[k]?.getD pin0).n) ∧ w.cell? ⟨b, off + k * 5 + 1, none⟩ = some (.int .i64 (ps[k]?.getD pin0).a) ∧ w.cell? ⟨b, off + k * 5 + 2, none⟩ = some (.int .i64 (ps[k]?.getD pin0).b) ∧
    w.cell? ⟨b, off + k * 5 + 3, none⟩ = some (.int .i64 (ps[k]?.getD pin0).e) ∧ w.cell? ⟨b, off + k * 5 + 4, none⟩ = some (.int .i64 (ps[k]?.getD pin0).u) := by
  obtain ⟨b, off, e, hb, hc⟩ := h.cells (by omega)
  exact ⟨b, off, e, hb, hc k hk 0 _ rfl, hc k hk 1 _ rfl, hc k hk 2 _ rfl, hc k hk 3 _ rfl, hc k hk 4 _ rfl⟩
theorem PRow.mem (h : PRow w B a len cap ps) {k : Nat} (hk : k < len) : (ps[k]?.getD pin0) ∈ ps := by
  have := h.length
  rw [List.getElem?_eq_getElem (by omega)]
  exact List.getElem_mem _
theorem PRow.name (h : PRow w B a len cap ps) {k : Nat} (hk : k < len) : (ps[k]?.getD pin0).n.size ≤ maxLen := h.names _ (h.mem hk)
end

/-- A slice of pins of the call's own. -/
def OwnP (w : World) (B : Nat) (v : Value) (ps : List PinD) : Prop := Own w B 5 v ps.length (flat ps)
section
variable {w w' : World} {B : Nat} {v : Value} {ps : List PinD}
theorem OwnP.row {a : Option Addr} {len cap : Nat} (h : OwnP w B (.slice a len cap) ps) (hs : ∀ p ∈ ps, p.n.size ≤ maxLen) : PRow w w.heap.size a len cap ps := by
  rcases h.2 with ⟨e, h0⟩ | ⟨g, c, e, hb, hg, h1, h2, hc, _⟩
  · injection e with e1 e2 e3
    subst e1; subst e2; subst e3
    obtain rfl : ps = [] := List.eq_nil_of_length_eq_zero h0
    exact PRow.nil _ _
  · injection e with e1 e2 e3
    subst e1; subst e2; subst e3
    exact ⟨rfl, h1, h2, hs, fun hp => ⟨g, 0, rfl, hg, fun j hj i v hv => by
      rw [Nat.zero_add]
      exact hc _ v (flat_get ps j i v hj hv)⟩⟩
theorem OwnP.row' {a : Option Addr} {len cap : Nat} (h : OwnP w B (.slice a len cap) ps) (hs : ∀ p ∈ ps, p.n.size ≤ maxLen) : PRow w w.heap.size a len cap ps ∧ len = ps.length := ⟨h.row hs, (h.row hs).length.symm⟩
theorem OwnP.nil (w : World) (B : Nat) : OwnP w B (.slice none 0 0) [] := Own.nil w B 5
theorem OwnP.alloc (h : OwnP w B v ps) (o : Obj) : OwnP (w.alloc o) B v ps := Own.alloc h o
theorem OwnP.below (h : OwnP w B v ps) (hb : Below w.heap.size w w') : OwnP w' B v ps := Own.below h hb
theorem OwnP.form (h : OwnP w B v ps) : ∃ a cap, v = .slice a ps.length cap ∧ ps.length ≤ cap ∧ cap ≤ maxLen ∧ (a = none → ps.length = 0 ∧ cap = 0) := Own.form h
theorem OwnP.less {B' : Nat} (h : OwnP w B v ps) (hB : B' ≤ B) : OwnP w B' v ps := Own.less h hB
end
/-- One cell of an owned slice is stored. -/
theorem Own.putCell {w : World} {B s g n c : Nat} {xs : List Value} {i : Nat} {u : Value} (h : Own w B s (.slice (some ⟨g, 0, none⟩) n c) n xs) (hi : i < xs.length) : Own (w.setCell ⟨g, i, none⟩ u) B s (.slice (some ⟨g, 0, none⟩) n c) n (xs.set i u) := by
  have hlen := h.1
  rcases h.2 with ⟨e, h0⟩ | ⟨g', c', e, hB, hg, hn, hm, hcell, hroom⟩
  · cases e
  injection e with e1 e2 e3
  injection e1 with e1
  injection e1 with e1 _ _
  subst e1
  subst e3
  have hfit : n * s ≤ c * s := Nat.mul_le_mul_right _ hn
  refine ⟨by simpa using hlen, .inr ⟨g, c, rfl, hB, by simpa [World.setCell] using hg, hn, hm, fun j u' hu => ?_, fun j hj => ?_⟩⟩
  · have hj := (List.getElem?_eq_some_iff.1 hu).1
    simp at hj
    by_cases hji : j = i
    · subst hji
      obtain ⟨u0, hu0⟩ := Option.isSome_iff_exists.1 (hroom j (by omega)).1
      rw [World.cell?_setCell_same _ _ _ (by rw [hu0]), ← hu]
      simp [hj]
    · rw [World.cell?_setCell_other _ _ _ _ (fun e => by injection e with _ e2; omega)]
      refine hcell j u' ?_
      rw [← hu]
      simp [show ¬ i = j by omega]
  · obtain ⟨q1, q2⟩ := hroom j hj
    refine ⟨?_, by rw [World.frozen?_setCell]; exact q2⟩
    obtain ⟨u0, hu0⟩ := Option.isSome_iff_exists.1 q1
    obtain ⟨v, hv⟩ := cell?_setCell_some (w := w) (p := ⟨g, i, none⟩) (x := u) (q := ⟨g, j, none⟩) (v := u0) hu0
    rw [hv]; rfl
/-- One pin of an owned slice is stored. -/
theorem OwnP.put {w : World} {B g n c : Nat} {ps : List PinD} {k : Nat} {p : PinD} (h : OwnP w B (.slice (some ⟨g, 0, none⟩) n c) ps) (hk : k < ps.length) :
    OwnP (((((w.setCell ⟨g, k * 5, none⟩ (.string p.n)).setCell ⟨g, k * 5 + 1, none⟩ (.int .i64 p.a)).setCell ⟨g, k * 5 + 2, none⟩ (.int .i64 p.b)).setCell ⟨g, k * 5 + 3, none⟩ (.int .i64 p.e)).setCell ⟨g, k * 5 + 4, none⟩ (.int .i64 p.u)) B (.slice (some ⟨g, 0, none⟩) n c) (ps.set k p) := by
  have hn : n = ps.length := by
    obtain ⟨a, cap, e, _⟩ := h.form
    injection e
  subst hn
  have hl := flat_length ps
  unfold OwnP
  rw [flat_set ps k p hk, List.length_set]
  refine Own.putCell (Own.putCell (Own.putCell (Own.putCell (Own.putCell h ?_) ?_) ?_) ?_) ?_ <;> (try simp only [List.length_set]) <;> omega
/-- That a cell of an owned slice can be written. -/
theorem OwnP.cell {w : World} {B g n c : Nat} {ps : List PinD} (h : OwnP w B (.slice (some ⟨g, 0, none⟩) n c) ps) {k i : Nat} (hk : k < ps.length) {u : Value} (hu : (ps[k]?.getD pin0).vals[i]? = some u) :
    w.cell? ⟨g, k * 5 + i, none⟩ = some u ∧ w.frozen? ⟨g, k * 5 + i, none⟩ = false := by
  rcases h.2 with ⟨e, h0⟩ | ⟨g', c', e, hB, hg, hn, hm, hcell, hroom⟩
  · cases e
  injection e with e1 e2 e3
  injection e1 with e1
  injection e1 with e1 _ _
  subst e1
  subst e3
  have hi : i < 5 := by have := (List.getElem?_eq_some_iff.1 hu).1; simpa [PinD.vals_length] using this
  have : (k + 1) * 5 ≤ c * 5 := Nat.mul_le_mul_right _ (by omega)
  exact ⟨hcell _ _ (flat_get ps k i u hk hu), (hroom _ (by omega)).2⟩
theorem pin_oneCell (p : PinD) : ∀ v ∈ p.vals, v.oneCell' = true := by
  intro v hv
  simp only [PinD.vals, List.mem_cons, List.not_mem_nil, or_false] at hv
  rcases hv with rfl | rfl | rfl | rfl | rfl <;> rfl
end Go.Proofs.YtmdknbgpddnplaaGreatDoor
namespace Go.Proofs.YtmdknbgpddnplaaGreatDoor
open Go Go.RowKit

/-- As Q; by a goto: what is held at its label. -/
def jumps (J : Nat → Act → World → Prop) (Q : Exit → Act → World → Prop) : Exit → Act → World → Prop
  | .goto l, a, w => J l a w
  | e, a, w => Q e a w

theorem wp_scope_labels {P : Program} {a : Act} {w : World} {Q : Exit → Act → World → Prop} {c : Code} (J : Nat → Act → World → Prop) (m : Nat → Act → World → Nat)
    (first : c.wp P (jumps J Q) a w)
    (pass : ∀ l a w, J l a w → ∃ rest, findLabel c l = some rest ∧ rest.wp P (jumps (fun l' a' w' => J l' a' w' ∧ m l' a' w' < m l a w) Q) a w) : (Code.scope c).wp P Q a w := by
  intro b k cs
  have key : ∀ n l a w, m l a w = n → J l a w → ∃ rest, findLabel c l = some rest ∧ ∃ e a' w', Q e a' w' ∧ Arrives P (lone (b.at a (.code rest :: .inScope c :: k)) cs w) b k cs e a' w' := by
    intro n
    induction n using Nat.strongRecOn with
    | _ n ih =>
      intro l a w hn hJ
      obtain ⟨rest, hf, hp⟩ := pass l a w hJ
      refine ⟨rest, hf, ?_⟩
      obtain ⟨e, a₁, w₁, hq, harr⟩ := hp b (.inScope c :: k) cs
      cases e with
      | normal => exact ⟨.normal, a₁, w₁, hq, Steps.trans harr (.one step_inScope)⟩
      | exit id => exact ⟨.exit id, a₁, w₁, hq, fun k' hk => harr k' (by simp [exitTo, hk])⟩
      | goto l' =>
        obtain ⟨hJ', hlt⟩ := hq
        obtain ⟨rest', hf', e₂, a₂, w₂, hq₂, harr₂⟩ := ih _ (by omega) l' a₁ w₁ rfl hJ'
        have hg : gotoIn l' (.inScope c :: k) = some (.code rest' :: .inScope c :: k) := by simp [gotoIn, hf']
        exact ⟨e₂, a₂, w₂, hq₂, .of_steps (harr _ hg) harr₂⟩
      | ret => exact ⟨_, a₁, w₁, hq, harr⟩
      | panic ch => exact ⟨_, a₁, w₁, hq, harr⟩
      | outgrown => exact ⟨_, a₁, w₁, hq, harr⟩
  obtain ⟨e, a₁, w₁, hq, harr⟩ := first b (.inScope c :: k) cs
  cases e with
  | normal => exact ⟨.normal, a₁, w₁, hq, .head step_scope (Steps.trans harr (.one step_inScope))⟩
  | exit id => exact ⟨.exit id, a₁, w₁, hq, fun k' hk => .head step_scope (harr k' (by simp [exitTo, hk]))⟩
  | goto l' =>
    obtain ⟨rest', hf', e₂, a₂, w₂, hq₂, harr₂⟩ := key _ l' a₁ w₁ rfl hq
    have hg : gotoIn l' (.inScope c :: k) = some (.code rest' :: .inScope c :: k) := by simp [gotoIn, hf']
    exact ⟨e₂, a₂, w₂, hq₂, .of_steps (.head step_scope (harr _ hg)) harr₂⟩
  | ret => exact ⟨_, a₁, w₁, hq, .of_steps (.one step_scope) harr⟩
  | panic ch => exact ⟨_, a₁, w₁, hq, .of_steps (.one step_scope) harr⟩
  | outgrown => exact ⟨_, a₁, w₁, hq, .of_steps (.one step_scope) harr⟩
end Go.Proofs.YtmdknbgpddnplaaGreatDoor
